/- TakenIn and MakeMoves, the model's. -/
import Derived.Test.YtkonhflamnekcaaAlongS2
import Derived.Test.YtkonhflamnekcaaTakenI
import Derived.Test.YtkonhflamnekcaaSwap1
import Derived.StillTailTactics
namespace Go.Proofs.Ytkonhflamnekcaa
open Go.RowKit

set_option maxRecDepth 100000 in
set_option maxHeartbeats 8000000 in
theorem sTakenIn_any (w : World) (aa ab : Option Addr) (n m ca cb : Nat) (S H : List Int) (ma : Option Addr) (mn mc : Nat) (L : List (Int × Int)) (h1 : Ints w aa n ca S) (h2 : Ints w ab m cb H) (h3 : Pairs w ma mn mc L) :
    Calls Try.prog 27 #[.agg #[.slice aa n ca, .slice ab m cb], .slice ma mn mc] w fun e w' => e = .returned (.tuple #[.int .i64 (takenM S H L).1, .int .i64 (takenM S H L).2.1, .bool (takenM S H L).2.2]) ∧ New w w' := by
  have HA := Lib.hid h1; clear h1
  have HB := Lib.hid h2; clear h2
  have HM := Lib.hid h3; clear h3
  by_cases hb : movesB S H L = true
  · obtain ⟨hG, h100, hok⟩ := movesB_iff.1 hb
    have hmn := HM.out.len
    have hn := HA.out.len
    have qm : mn ≤ 100 := by omega
    have HG := Lib.hid hG; clear hG
    have HOK := Lib.hid hok; clear hok
    have HN := Lib.hid (And.intro hn hmn); clear hn hmn h100
    have HTK := Lib.hid (takenM_yes hb)
    go_enter Try.func27, Try.ntmps27
    go_wp2_with fail
    refine (veMoves_any _ _ _ _ _ _ _ _ _ _ S H L (HA.out.new (by repeat (first | with_reducible exact New.refl _ | with_reducible assumption | refine New.drewN ?_ _ | refine New.drew ?_ | refine New.alloc ?_ _ | refine New.setCell ?_ (by first | omega | (simp; omega) | (simp; done)) _ | (refine New.trans ?_ (by assumption))))) (HB.out.new (by repeat (first | with_reducible exact New.refl _ | with_reducible assumption | refine New.drewN ?_ _ | refine New.drew ?_ | refine New.alloc ?_ _ | refine New.setCell ?_ (by first | omega | (simp; omega) | (simp; done)) _ | (refine New.trans ?_ (by assumption))))) (HM.out.new (by repeat (first | with_reducible exact New.refl _ | with_reducible assumption | refine New.drewN ?_ _ | refine New.drew ?_ | refine New.alloc ?_ _ | refine New.setCell ?_ (by first | omega | (simp; omega) | (simp; done)) _ | (refine New.trans ?_ (by assumption)))))).mono ?_
    rintro e w0 ⟨rfl, n0⟩
    have a0 : w0.cell? ⟨w.heap.size, 0, none⟩ = some (.slice aa n ca) := n0.cell (by simp [go_sem])
    have a1 : w0.cell? ⟨w.heap.size, 1, none⟩ = some (.slice ab m cb) := n0.cell (by simp [go_sem])
    have N0 := Lib.hid (show New w w0 from New.trans (by repeat (first | with_reducible exact New.refl _ | with_reducible assumption | refine New.drewN ?_ _ | refine New.drew ?_ | refine New.alloc ?_ _ | refine New.setCell ?_ (by first | omega | (simp; omega) | (simp; done)) _ | (refine New.trans ?_ (by assumption)))) n0); clear n0
    go_wp2_with fail
    refine (veAlong_any _ _ _ _ _ _ _ _ _ _ S H L (HA.out.new N0.out) (HB.out.new N0.out) (HM.out.new N0.out) hb).mono ?_
    rintro e w1 ⟨v, rfl, hv, n1⟩
    have N1 := Lib.hid (N0.out.trans n1); clear n1 a0 a1
    obtain ⟨b, cap, rfl, hc, hl, hlt0, hcell⟩ := hv
    have HC := Lib.hid hcell; clear hcell
    have HB1 := Lib.hid (And.intro hl hlt0); clear hl hlt0
    obtain ⟨fn, hfn⟩ : ∃ fn, fn = L.length + 1 := ⟨_, rfl⟩
    rw [← hfn] at hc ⊢
    have hlt1 : mn < fn := by have := HN.out.2; omega
    have HFN := Lib.hid hfn; clear hfn
    have hmc : mn ≤ cap := by omega
    clear hb
    go_wp2
    go_loopw [7, 8, 23] (fun x y i wr => ∃ k : Nat, k ≤ mn ∧ i = .int .i64 k ∧ x = .int .i64 (tapK S H L k) ∧ y = .int .i64 (drainK S H L k) ∧ New w1 wr) (fun _ _ i _ => mn - (intOf i).toNat)
    case atStart => exact ⟨0, Nat.zero_le _, rfl, rfl, rfl, New.refl _⟩
    case round =>
      obtain ⟨k, hk, rfl, rfl, rfl, hnw⟩ := hrel
      have NW := Lib.hid hnw; clear hnw
      have zr := NW.out.size
      by_cases hlt : k < mn
      · obtain ⟨bm, om_, rfl, e0, e1⟩ := (HM.out.new (N1.out.trans NW.out)).2.2.2.1 k hlt
        obtain ⟨p, hp⟩ : ∃ p, p = L[k]?.getD (0, 0) := ⟨_, rfl⟩
        have ok := movesOk_at HOK.out (show k < L.length by have := HN.out.2; omega)
        have bd := taken_bd HG.out HOK.out k (by have := HN.out.2; omega)
        have am := amt_bd (along_good HG.out HOK.out k (by have := HN.out.2; omega)) ok
        rw [← hp] at e0 e1 ok am
        obtain ⟨f, t⟩ := p
        simp only at e0 e1 ok am
        have TK := Lib.hid (And.intro (tapK_succ S H L k f t hp.symm) (drainK_succ S H L k f t hp.symm))
        have hf1 : -1 ≤ f := ok.1.1
        have ht1 : -1 ≤ t := ok.2.1.1
        have OK := Lib.hid ok; clear ok
        have HP := Lib.hid hp; clear hp
        have hgk := Lib.hid (along_good HG.out HOK.out k (by have := HN.out.2; omega))
        obtain ⟨⟨t1, t2⟩, t3, t4⟩ := bd
        obtain ⟨am1, am2⟩ := am
        obtain ⟨p, q, c0, c1, sa, n', sc, sb, m', sd, rfl, rfl, ov, _, _⟩ := HC.out k (by have := HFN.out; have := HN.out.2; omega)
        replace c0 := NW.out.cell c0
        replace c1 := NW.out.cell c1
        have OV := Lib.hid (ov.new NW.out); clear ov
        have zb : b < wr.heap.size := by have := HB1.out.2; omega
        obtain ⟨W5, hW5⟩ : ∃ W5, W5 = wr.alloc (.cells #[.slice sa n' sc, .slice sb m' sd] 28) := ⟨_, rfl⟩
        have n5 : New wr W5 := by rw [hW5]; exact (New.refl _).alloc _
        have x0 : W5.cell? ⟨wr.heap.size, 0, none⟩ = some (.slice sa n' sc) := by rw [hW5]; simp
        have x1 : W5.cell? ⟨wr.heap.size, 1, none⟩ = some (.slice sb m' sd) := by rw [hW5]; simp
        have H5 := Lib.hid hW5; clear hW5
        go_upto_region 7 with fail
        rw [← H5.out]
        replace e0 := n5.cell e0
        replace e1 := n5.cell e1
        have N5 := Lib.hid n5; clear n5 c0 c1
        go_still_tail 5, (by kernel_rfl)
        change wpList _ _ _ _ _ W5.drew
        obtain ⟨w6, hw6⟩ : ∃ x, x = W5.drew := ⟨_, rfl⟩
        rw [← hw6]
        have n6 : New W5 w6 := by rw [hw6]; exact (New.refl _).drew
        have N6 := Lib.hid (N5.out.trans n6)
        replace e0 := n6.cell e0
        replace e1 := n6.cell e1
        clear hw6 n6 x0 x1
        go_wp2_with fail
        refine (veAmount_any _ _ _ _ _ _ _ S (along S H L k) f t (OV.out.1.ints.new N6.out) (OV.out.2.1.ints.new N6.out) hgk.out OK.out).mono ?_
        rintro e w7 ⟨rfl, n7⟩
        replace e0 := n7.cell e0
        replace e1 := n7.cell e1
        have N7 := Lib.hid (NW.out.trans (N6.out.trans n7)); clear n7
        by_cases hf : f = -1
        · subst hf
          have T1 := Lib.hid TK.out.1
          have T2 := Lib.hid TK.out.2
          go_wp2
          go_roundw
          case rel => exact ⟨k + 1, by omega, by go_num, by rw [T1.out]; simp, by rw [T2.out]; simp, N7.out⟩
          case measure => simp [intOf]; omega
        · have hf2 : ¬ f < 0 := by omega
          by_cases ht : t = -1
          · subst ht
            have T1 := Lib.hid TK.out.1
            have T2 := Lib.hid TK.out.2
            go_wp2
            go_roundw
            case rel => exact ⟨k + 1, by omega, by go_num, by rw [T1.out]; simp [hf], by rw [T2.out]; simp [hf], N7.out⟩
            case measure => simp [intOf]; omega
          · have ht2 : ¬ t < 0 := by omega
            go_wp2
            go_roundw
            case rel => exact ⟨k + 1, by omega, by go_num, by rw [TK.out.1, if_neg hf]; simp, by rw [TK.out.2, if_neg (fun h => ht h.2)]; simp, N7.out⟩
            case measure => simp [intOf]; omega
      · obtain rfl : k = mn := by omega
        go_wp2
        go_ret3
        exact ⟨ret_three (by rw [HTK.out]; show _ = tapK S H L L.length; rw [← HN.out.2]) (by rw [HTK.out]; show _ = drainK S H L L.length; rw [← HN.out.2]) (by rw [HTK.out]), N1.out.trans NW.out⟩
  · have hb' : movesB S H L = false := by simpa using hb
    have HTK := Lib.hid (takenM_no hb')
    go_enter Try.func27, Try.ntmps27
    go_wp2_with fail
    refine (veMoves_any _ _ _ _ _ _ _ _ _ _ S H L (HA.out.new (by repeat (first | with_reducible exact New.refl _ | with_reducible assumption | refine New.drewN ?_ _ | refine New.drew ?_ | refine New.alloc ?_ _ | refine New.setCell ?_ (by first | omega | (simp; omega) | (simp; done)) _ | (refine New.trans ?_ (by assumption))))) (HB.out.new (by repeat (first | with_reducible exact New.refl _ | with_reducible assumption | refine New.drewN ?_ _ | refine New.drew ?_ | refine New.alloc ?_ _ | refine New.setCell ?_ (by first | omega | (simp; omega) | (simp; done)) _ | (refine New.trans ?_ (by assumption))))) (HM.out.new (by repeat (first | with_reducible exact New.refl _ | with_reducible assumption | refine New.drewN ?_ _ | refine New.drew ?_ | refine New.alloc ?_ _ | refine New.setCell ?_ (by first | omega | (simp; omega) | (simp; done)) _ | (refine New.trans ?_ (by assumption)))))).mono ?_
    rintro e w0 ⟨rfl, n0⟩
    go_wp2
    go_ret3
    exact ⟨ret_three (by rw [HTK.out]) (by rw [HTK.out]) (by rw [HTK.out]), New.trans (by repeat (first | with_reducible exact New.refl _ | with_reducible assumption | refine New.drewN ?_ _ | refine New.drew ?_ | refine New.alloc ?_ _ | refine New.setCell ?_ (by first | omega | (simp; omega) | (simp; done)) _ | (refine New.trans ?_ (by assumption)))) n0⟩

set_option maxRecDepth 100000 in
set_option maxHeartbeats 8000000 in
theorem sMakeMoves_any (w : World) (aa ab : Option Addr) (n m ca cb : Nat) (S H : List Int) (ma : Option Addr) (mn mc : Nat) (L : List (Int × Int)) (h1 : Ints w aa n ca S) (h2 : Ints w ab m cb H) (h3 : Pairs w ma mn mc L) :
    Calls Try.prog 13 #[.agg #[.slice aa n ca, .slice ab m cb], .slice ma mn mc] w (RetW w (madeM S H L).1 (madeM S H L).2.1 (madeM S H L).2.2) := by
  have HA := Lib.hid h1; clear h1
  have HB := Lib.hid h2; clear h2
  have HM := Lib.hid h3; clear h3
  have hmm := HM.out.2.2.1
  by_cases hb : movesB S H L = true
  · have hmn := HM.out.len
    have HN := Lib.hid hmn; clear hmn
    have HTK := Lib.hid (madeM_yes hb)
    go_enter Try.func13, Try.ntmps13
    go_wp2_with fail
    refine (veMoves_any _ _ _ _ _ _ _ _ _ _ S H L (HA.out.new (by repeat (first | with_reducible exact New.refl _ | with_reducible assumption | refine New.drewN ?_ _ | refine New.drew ?_ | refine New.alloc ?_ _ | refine New.setCell ?_ (by first | omega | (simp; omega) | (simp; done)) _ | (refine New.trans ?_ (by assumption))))) (HB.out.new (by repeat (first | with_reducible exact New.refl _ | with_reducible assumption | refine New.drewN ?_ _ | refine New.drew ?_ | refine New.alloc ?_ _ | refine New.setCell ?_ (by first | omega | (simp; omega) | (simp; done)) _ | (refine New.trans ?_ (by assumption))))) (HM.out.new (by repeat (first | with_reducible exact New.refl _ | with_reducible assumption | refine New.drewN ?_ _ | refine New.drew ?_ | refine New.alloc ?_ _ | refine New.setCell ?_ (by first | omega | (simp; omega) | (simp; done)) _ | (refine New.trans ?_ (by assumption)))))).mono ?_
    rintro e w0 ⟨rfl, n0⟩
    have a0 : w0.cell? ⟨w.heap.size, 0, none⟩ = some (.slice aa n ca) := n0.cell (by simp [go_sem])
    have a1 : w0.cell? ⟨w.heap.size, 1, none⟩ = some (.slice ab m cb) := n0.cell (by simp [go_sem])
    have r0 : w0.cell? ⟨w.heap.size + 1, 0, none⟩ = some (.slice none 0 0) := n0.cell (by simp [go_sem])
    have r1 : w0.cell? ⟨w.heap.size + 1, 1, none⟩ = some (.slice none 0 0) := n0.cell (by simp [go_sem])
    have f0 : w0.frozen? ⟨w.heap.size + 1, 0, none⟩ = false := n0.frz (v := .slice none 0 0) (by simp [go_sem]) (by simp [go_sem])
    have f1 : w0.frozen? ⟨w.heap.size + 1, 1, none⟩ = false := n0.frz (v := .slice none 0 0) (by simp [go_sem]) (by simp [go_sem])
    have N0 := Lib.hid (show New w w0 from New.trans (by repeat (first | with_reducible exact New.refl _ | with_reducible assumption | refine New.drewN ?_ _ | refine New.drew ?_ | refine New.alloc ?_ _ | refine New.setCell ?_ (by first | omega | (simp; omega) | (simp; done)) _ | (refine New.trans ?_ (by assumption)))) n0); clear n0
    have z0 : w.heap.size + 1 < w0.heap.size := World.block_lt_of_cell? _ _ r0
    go_wp2_with fail
    refine (veAlong_any _ _ _ _ _ _ _ _ _ _ S H L (HA.out.new N0.out) (HB.out.new N0.out) (HM.out.new N0.out) hb).mono ?_
    rintro e w1 ⟨v, rfl, hv, n1⟩
    obtain ⟨r2, r3, f2, f3⟩ := New.boxed n1 r0 r1 f0 f1
    have N1 := Lib.hid (N0.out.trans n1)
    have z1 := n1.size
    clear n1 a0 a1 r0 r1 f0 f1
    obtain ⟨b, cap, rfl, hc, hl, hlt0, hcell⟩ := hv
    have HC := Lib.hid hcell; clear hcell
    obtain ⟨fn, hfn⟩ : ∃ fn, fn = L.length + 1 := ⟨_, rfl⟩
    rw [← hfn] at hc ⊢
    have hlt1 : mn < fn := by have := HN.out; omega
    have HFN := Lib.hid hfn; clear hfn
    clear hb
    obtain ⟨p, q, c0, c1, sa, n', sc, sb, m', sd, rfl, rfl, ov, _, _⟩ := HC.out mn (by have := HN.out; omega)
    have AE := Lib.hid (show along S H L mn = along S H L L.length by rw [HN.out])
    have OV := Lib.hid ov; clear ov
    go_wp2
    have nn := N1.out
    refine bodyPost_ret (v := .tuple #[.agg #[.slice sa n' sc, .slice sb m' sd], .bool true]) (by simp [results, Try.results13, go_sem, r2, r3]) rfl ?_
    rw [HTK.out, ← AE.out]
    refine ⟨_, _, _, _, _, _, rfl, ?_, (by repeat (first | with_reducible exact New.refl _ | with_reducible assumption | refine New.drewN ?_ _ | refine New.drew ?_ | refine New.alloc ?_ _ | refine New.setCell ?_ (by first | omega | (simp; omega) | (simp; done)) _ | (refine New.trans ?_ (by assumption))))⟩
    exact ((OV.out.setCell (.inl (by simp; omega)) _).setCell (.inl (by simp; omega)) _).mono (by omega) (by simp)
  · have hb' : movesB S H L = false := by simpa using hb
    have HTK := Lib.hid (madeM_no hb')
    go_enter Try.func13, Try.ntmps13
    go_wp2_with fail
    refine (veMoves_any _ _ _ _ _ _ _ _ _ _ S H L (HA.out.new (by repeat (first | with_reducible exact New.refl _ | with_reducible assumption | refine New.drewN ?_ _ | refine New.drew ?_ | refine New.alloc ?_ _ | refine New.setCell ?_ (by first | omega | (simp; omega) | (simp; done)) _ | (refine New.trans ?_ (by assumption))))) (HB.out.new (by repeat (first | with_reducible exact New.refl _ | with_reducible assumption | refine New.drewN ?_ _ | refine New.drew ?_ | refine New.alloc ?_ _ | refine New.setCell ?_ (by first | omega | (simp; omega) | (simp; done)) _ | (refine New.trans ?_ (by assumption))))) (HM.out.new (by repeat (first | with_reducible exact New.refl _ | with_reducible assumption | refine New.drewN ?_ _ | refine New.drew ?_ | refine New.alloc ?_ _ | refine New.setCell ?_ (by first | omega | (simp; omega) | (simp; done)) _ | (refine New.trans ?_ (by assumption)))))).mono ?_
    rintro e w0 ⟨rfl, n0⟩
    have r0 : w0.cell? ⟨w.heap.size + 1, 0, none⟩ = some (.slice none 0 0) := n0.cell (by simp [go_sem])
    have r1 : w0.cell? ⟨w.heap.size + 1, 1, none⟩ = some (.slice none 0 0) := n0.cell (by simp [go_sem])
    have f0 : w0.frozen? ⟨w.heap.size + 1, 0, none⟩ = false := n0.frz (v := .slice none 0 0) (by simp [go_sem]) (by simp [go_sem])
    have f1 : w0.frozen? ⟨w.heap.size + 1, 1, none⟩ = false := n0.frz (v := .slice none 0 0) (by simp [go_sem]) (by simp [go_sem])
    have N0 := Lib.hid (show New w w0 from New.trans (by repeat (first | with_reducible exact New.refl _ | with_reducible assumption | refine New.drewN ?_ _ | refine New.drew ?_ | refine New.alloc ?_ _ | refine New.setCell ?_ (by first | omega | (simp; omega) | (simp; done)) _ | (refine New.trans ?_ (by assumption)))) n0); clear n0
    go_wp2
    have nn := N0.out
    refine bodyPost_ret (v := .tuple #[.agg #[.slice none 0 0, .slice none 0 0], .bool false]) (by simp [results, Try.results13, go_sem, r0, r1]) rfl ?_
    rw [HTK.out]
    exact ⟨none, 0, 0, none, 0, 0, rfl, OwnV.nil _ _ _, (by repeat (first | with_reducible exact New.refl _ | with_reducible assumption | refine New.drewN ?_ _ | refine New.drew ?_ | refine New.alloc ?_ _ | refine New.setCell ?_ (by first | omega | (simp; omega) | (simp; done)) _ | (refine New.trans ?_ (by assumption))))⟩
end Go.Proofs.Ytkonhflamnekcaa
