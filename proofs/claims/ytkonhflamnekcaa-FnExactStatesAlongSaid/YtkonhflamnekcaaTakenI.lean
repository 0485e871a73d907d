/- TakenIn, the program's. -/
import Derived.Test.YtkonhflamnekcaaAlongI
namespace Go.Proofs.Ytkonhflamnekcaa
open Go.RowKit

theorem Fives.at {w : World} {b n : Nat} {A : Nat → List Int} {k : Nat} (h : ∀ j, j < n → ∀ i, i < 5 → w.cell? ⟨b, j * 5 + i, none⟩ = some (.int .i64 ((A j)[i]?.getD 0))) (hk : k < n) :
    w.cell? ⟨b, k * 5, none⟩ = some (.int .i64 ((A k)[0]?.getD 0)) ∧ w.cell? ⟨b, k * 5 + 1, none⟩ = some (.int .i64 ((A k)[1]?.getD 0)) ∧ w.cell? ⟨b, k * 5 + 2, none⟩ = some (.int .i64 ((A k)[2]?.getD 0)) ∧
      w.cell? ⟨b, k * 5 + 3, none⟩ = some (.int .i64 ((A k)[3]?.getD 0)) ∧ w.cell? ⟨b, k * 5 + 4, none⟩ = some (.int .i64 ((A k)[4]?.getD 0)) :=
  ⟨h k hk 0 (by omega), h k hk 1 (by omega), h k hk 2 (by omega), h k hk 3 (by omega), h k hk 4 (by omega)⟩
theorem ret_three {a b a' b' : Int} {c c' : Bool} (h1 : a = a') (h2 : b = b') (h3 : c = c') : Ending.returned (.tuple #[.int .i64 a, .int .i64 b, .bool c]) = .returned (.tuple #[.int .i64 a', .int .i64 b', .bool c']) := by rw [h1, h2, h3]

set_option maxRecDepth 100000 in
set_option maxHeartbeats 8000000 in
theorem iTakenIn_any (w : World) (aa ab : Option Addr) (n m ca cb : Nat) (S H : List Int) (ma : Option Addr) (mn mc : Nat) (L : List (Int × Int)) (h1 : Ints w aa n ca S) (h2 : Ints w ab m cb H) (h3 : Pairs w ma mn mc L) :
    Calls Try.prog 28 #[.agg #[.slice aa n ca, .slice ab m cb], .slice ma mn mc] w fun e w' => e = .returned (.tuple #[.int .i64 (takenM S H L).1, .int .i64 (takenM S H L).2.1, .bool (takenM S H L).2.2]) ∧ New w w' := by
  have HA := Lib.hid h1; clear h1
  have HB := Lib.hid h2; clear h2
  have HM := Lib.hid h3; clear h3
  go_enter Try.func28, Try.ntmps28
  go_wp2_with fail
  refine (holdingsAlong_any _ _ _ _ _ _ _ _ _ _ S H L (HA.out.new (by repeat (first | with_reducible exact New.refl _ | with_reducible assumption | refine New.drewN ?_ _ | refine New.drew ?_ | refine New.alloc ?_ _ | refine New.setCell ?_ (by first | omega | (simp; omega) | (simp; done)) _ | (refine New.trans ?_ (by assumption))))) (HB.out.new (by repeat (first | with_reducible exact New.refl _ | with_reducible assumption | refine New.drewN ?_ _ | refine New.drew ?_ | refine New.alloc ?_ _ | refine New.setCell ?_ (by first | omega | (simp; omega) | (simp; done)) _ | (refine New.trans ?_ (by assumption))))) (HM.out.new (by repeat (first | with_reducible exact New.refl _ | with_reducible assumption | refine New.drewN ?_ _ | refine New.drew ?_ | refine New.alloc ?_ _ | refine New.setCell ?_ (by first | omega | (simp; omega) | (simp; done)) _ | (refine New.trans ?_ (by assumption)))))).mono ?_
  rintro e w1 ⟨n1, hr⟩
  have a0 : w1.cell? ⟨w.heap.size, 0, none⟩ = some (.slice aa n ca) := n1.cell (by simp [go_sem])
  have a1 : w1.cell? ⟨w.heap.size, 1, none⟩ = some (.slice ab m cb) := n1.cell (by simp [go_sem])
  have N1 := Lib.hid (show New w w1 from New.trans (by repeat (first | with_reducible exact New.refl _ | with_reducible assumption | refine New.drewN ?_ _ | refine New.drew ?_ | refine New.alloc ?_ _ | refine New.setCell ?_ (by first | omega | (simp; omega) | (simp; done)) _ | (refine New.trans ?_ (by assumption)))) n1); clear n1
  rcases hr with ⟨hb, v, rfl, hf⟩ | ⟨hb, rfl⟩
  · obtain ⟨hG, h100, hok⟩ := movesB_iff.1 hb
    have hmn := HM.out.len
    have hn := HA.out.len
    have qm : mn ≤ 100 := by omega
    have q5 : n ≤ 5 := by have := hG.1; omega
    have HG := Lib.hid hG; clear hG
    have HOK := Lib.hid hok; clear hok
    have HN := Lib.hid (And.intro hn hmn); clear hn hmn h100
    have HTK := Lib.hid (takenM_yes hb); clear hb
    obtain ⟨b, cap, rfl, hc, hl, hlt0, hcell⟩ := hf
    have HC := Lib.hid hcell; clear hcell
    obtain ⟨fn, hfn⟩ : ∃ fn, fn = L.length + 1 := ⟨_, rfl⟩
    rw [← hfn] at hc ⊢
    have HFN := Lib.hid hfn; clear hfn
    have A1 := Lib.hid (And.intro a0 a1)
    go_wp2
    go_loopw [9, 10, 24] (fun x y i wr => ∃ k : Nat, k ≤ mn ∧ i = .int .i64 k ∧ x = .int .i64 (tapK S H L k) ∧ y = .int .i64 (drainK S H L k) ∧ New w1 wr) (fun _ _ i _ => mn - (intOf i).toNat)
    case atStart => exact ⟨0, Nat.zero_le _, rfl, rfl, rfl, New.refl _⟩
    case round =>
      obtain ⟨k, hk, rfl, rfl, rfl, hnw⟩ := hrel
      have NW := Lib.hid hnw; clear hnw
      have zr := NW.out.size
      clear a0 a1
      have a0 := NW.out.cell A1.out.1
      have a1 := NW.out.cell A1.out.2
      have zq : w.heap.size < wr.heap.size := World.block_lt_of_cell? _ _ a0
      by_cases hlt : k < mn
      · obtain ⟨bm, om_, rfl, e0, e1⟩ := (HM.out.new (N1.out.trans NW.out)).2.2.2.1 k hlt
        obtain ⟨p, hp⟩ : ∃ p, p = L[k]?.getD (0, 0) := ⟨_, rfl⟩
        have ok := movesOk_at HOK.out (show k < L.length by have := HN.out.2; omega)
        have bd := taken_bd HG.out HOK.out k (by have := HN.out.2; omega)
        have am := amt_bd (along_good HG.out HOK.out k (by have := HN.out.2; omega)) ok
        rw [← hp] at e0 e1 ok am
        obtain ⟨f, t⟩ := p
        simp only at e0 e1 ok am
        have TK := Lib.hid (And.intro (tapK_succ S H L k f t hp.symm) (drainK_succ S H L k f t hp.symm))
        have OK := Lib.hid ok; clear ok
        have HP := Lib.hid hp; clear hp
        have hgk := Lib.hid (along_good HG.out HOK.out k (by have := HN.out.2; omega))
        obtain ⟨⟨t1, t2⟩, t3, t4⟩ := bd
        obtain ⟨am1, am2⟩ := am
        obtain ⟨g0, g1, g2, g3, g4⟩ := Fives.at (fun j hj i hi => NW.out.cell (HC.out j hj i hi)) (show k < L.length + 1 by have := HN.out.2; omega)
        obtain ⟨W5, hW5⟩ : ∃ W5, W5 = wr.alloc (.cells #[.int .i64 f, .int .i64 t] 53) := ⟨_, rfl⟩
        have n5 : New wr W5 := by rw [hW5]; exact (New.refl _).alloc _
        have x0 : W5.cell? ⟨wr.heap.size, 0, none⟩ = some (.int .i64 f) := by rw [hW5]; simp
        have x1 : W5.cell? ⟨wr.heap.size, 1, none⟩ = some (.int .i64 t) := by rw [hW5]; simp
        have H5 := Lib.hid hW5; clear hW5
        go_upto_region 8 with fail
        rw [← H5.out]
        replace a0 := n5.cell a0
        replace a1 := n5.cell a1
        replace g0 := n5.cell g0
        replace g1 := n5.cell g1
        replace g2 := n5.cell g2
        replace g3 := n5.cell g3
        replace g4 := n5.cell g4
        have N5 := Lib.hid n5; clear n5 e0 e1
        have hlt1 : k < fn := by have := HFN.out; have := HN.out.2; omega
        go_still_tail 7, (by kernel_rfl)
        change wpList _ _ _ _ _ W5.drew
        obtain ⟨w6, hw6⟩ : ∃ x, x = W5.drew := ⟨_, rfl⟩
        rw [← hw6]
        have N6 := Lib.hid (show New wr w6 by rw [hw6]; exact N5.out.drew)
        replace x0 : w6.cell? ⟨wr.heap.size, 0, none⟩ = some (.int .i64 f) := by rw [hw6]; simpa using x0
        replace x1 : w6.cell? ⟨wr.heap.size, 1, none⟩ = some (.int .i64 t) := by rw [hw6]; simpa using x1
        clear hw6 g0 g1 g2 g3 g4 a0 a1
        go_wp2_with fail
        refine (amountIn_any _ _ _ _ S (along S H L k) f t (HA.out.new ((N1.out.trans NW.out).trans N6.out)) hgk.out OK.out).mono ?_
        rintro e w7 ⟨rfl, n7⟩
        replace x0 := n7.cell x0
        replace x1 := n7.cell x1
        have N7 := Lib.hid (NW.out.trans (N6.out.trans n7)); clear n7
        by_cases hf : f = -1
        · subst hf
          have T1 := Lib.hid TK.out.1
          have T2 := Lib.hid TK.out.2
          go_wp2
          go_roundw
          case rel => exact ⟨k + 1, by omega, by go_num, by rw [T1.out]; simp, by rw [T2.out]; simp, N7.out⟩
          case measure => simp [intOf]; omega
        · have hf2 : (f == -1) = false := by simpa using hf
          by_cases ht : t = -1
          · subst ht
            have T1 := Lib.hid TK.out.1
            have T2 := Lib.hid TK.out.2
            go_wp2
            go_roundw
            case rel => exact ⟨k + 1, by omega, by go_num, by rw [T1.out]; simp [hf], by rw [T2.out]; simp [hf], N7.out⟩
            case measure => simp [intOf]; omega
          · have ht2 : (t == -1) = false := by simpa using ht
            go_wp2
            go_roundw
            case rel => exact ⟨k + 1, by omega, by go_num, by rw [TK.out.1, if_neg hf]; simp, by rw [TK.out.2, if_neg (fun h => ht h.2)]; simp, N7.out⟩
            case measure => simp [intOf]; omega
      · obtain rfl : k = mn := by omega
        go_wp2
        go_ret3
        exact ⟨ret_three (by rw [HTK.out]; show _ = tapK S H L L.length; rw [← HN.out.2]) (by rw [HTK.out]; show _ = drainK S H L L.length; rw [← HN.out.2]) (by rw [HTK.out]), N1.out.trans NW.out⟩
  · have HTK := Lib.hid (takenM_no hb); clear hb
    go_wp2
    go_ret3
    exact ⟨ret_three (by rw [HTK.out]) (by rw [HTK.out]) (by rw [HTK.out]), N1.out⟩
end Go.Proofs.Ytkonhflamnekcaa
