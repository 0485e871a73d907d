/- The program's word on a siphon that never stops, whatever order the map gives. -/
import Derived.Test.YtafiihhiipfejaaRead9
namespace Go.Proofs.Ytafiihhiipfejaa
open Go.RowKit Go.Maps

set_option maxRecDepth 100000 in
set_option maxHeartbeats 4000000 in
theorem iNeverStops_any (w : World) (a b c d x : Int) :
    Calls Try.prog 20 #[sipV a b c d, .int .i64 x] w fun e w' => e = .returned (.tuple #[.bool (neverM a b c d x), .bool (steadyB a b c d x)]) ∧ New w w' := by
  by_cases hs : steadyB a b c d x = true
  · have EQ := Lib.hid (show neverM a b c d x = runsTo a b c d x (perK a b c d x) (perP a b c d x) by unfold neverM; rw [hs]; rfl)
    obtain ⟨ho, x0, x1⟩ := steadyB_iff.1 hs
    obtain ⟨kf, hkf⟩ := keyFn_ex
    obtain ⟨hm, hn⟩ := per_ex (x := x) ho x0
    have KN : perK a b c d x < perN a b c d x := hm.2.1
    have AP := Lib.hid (apart_of hkf (chain_one ho) x0 x1 (meets_one.2 hm).1)
    have OK := Lib.hid (chSt_ok (x := x) (chain_one ho) x0 x1)
    have HM := Lib.hid (meets_one.2 hm); clear hm
    have HSD := Lib.hid hs; clear hs
    have HS := Lib.hid ho; clear ho
    go_enter Try.func20, Try.ntmps20
    go_wp2_with fail
    refine (roundOf_yes hkf _ _ _ _ [(a, b, c, d)] x _ _ (lit4_reads _ _ _ _ _ _ (by simp)) (by rw [chainB_one]; exact sipB_iff.2 HS.out) (inB_iff.2 ⟨x0, x1⟩) HM.out (by omega)).mono ?_
    rintro e w1 ⟨B, D, rfl, hB, hom, ht, n1⟩
    have KF := Lib.hid hkf; clear hkf
    have b0 : w1.cell? ⟨w.heap.size, 0, none⟩ = some (.int .i64 a) := n1.cell (by simp [go_sem])
    have b1 : w1.cell? ⟨w.heap.size, 1, none⟩ = some (.int .i64 b) := n1.cell (by simp [go_sem])
    have b2 : w1.cell? ⟨w.heap.size, 2, none⟩ = some (.int .i64 c) := n1.cell (by simp [go_sem])
    have b3 : w1.cell? ⟨w.heap.size, 3, none⟩ = some (.int .i64 d) := n1.cell (by simp [go_sem])
    have zs : w.heap.size < w1.heap.size := World.block_lt_of_cell? _ _ b0
    have N1 := Lib.hid (show New w w1 from New.trans (by repeat (first | with_reducible exact New.refl _ | with_reducible assumption | refine New.drewN ?_ _ | refine New.drew ?_ | refine New.alloc ?_ _ | refine New.setCell ?_ (by first | omega | (simp; omega) | (simp; done)) _ | (refine New.trans ?_ (by assumption)))) n1); clear n1
    have HB0 := Lib.hid (show w.heap.size ≤ B by simp at hB; omega); clear hB
    have HT := Lib.hid ht; clear ht
    have HO1 := Lib.hid hom; clear hom
    go_wp2_with (first | (refine wpList_store_mid rfl 64 (.tmp 6) (.tmp 14) rfl w1.heap.size 0 (roundC B (chSt [(a, b, c, d)] x (perK a b c d x))).toArray rfl rfl (th9 w1) (by kernel_rfl) (roundC_one _ _) ?_; obtain ⟨w2, hw2⟩ : ∃ w2, w2 = (w1.alloc (.cells #[.map none, .int .i64 0, .bool false, .int .i64 0, .bool false, .int .i64 0, .bool false, .int .i64 0, .bool false] 64)).setCells w1.heap.size 0 (roundC B (chSt [(a, b, c, d)] x (perK a b c d x))).toArray.toList := ⟨_, rfl⟩; rw [← hw2]; obtain ⟨d0, d1, d2, n12, ho2, z2⟩ := stored_yes hw2 HO1.out; clear hw2; replace b0 := n12.cell b0; replace b1 := n12.cell b1; replace b2 := n12.cell b2; replace b3 := n12.cell b3; have OM := Lib.hid ho2; have N2 := Lib.hid (N1.out.trans n12); clear n12 ho2) | (at_range; refine wpList_range_own _ rfl _ 60 rfl 62 3 chLaw Try.underlying60 _ B _ D rfl OM.out ?_; intro w3 hrg0 hg0 hs0) | go_in)
    go_frame
    have RG0 := Lib.hid hrg0; clear hrg0
    have NR0 := Lib.hid (New.first hg0); clear hg0 hs0 d0 d1 d2
    go_loopw [21] (fun _ wr => ∃ (left : Lit → Bool) (cnt : Nat), wr.ranges Try.prog 62 (plainElem Try.prog 3) B w2.heap.size (perN a b c d x) D left cnt ∧ (∀ kl, left kl = true → has D kl = true) ∧ (∀ i, perK a b c d x ≤ i → i < perN a b c d x → left (kf (chSt [(a, b, c, d)] x i)) = false → (cst a b c d x i).2 = true) ∧ New w2 wr)
      (fun _ wr => wr.rangeLeft B w2.heap.size)
    case atStart =>
      refine ⟨_, _, RG0.out, fun _ h => h, fun i h1 h2 h3 => ?_, NR0.out⟩
      exact absurd ((HT.out.has_ _).2 ⟨i, h2, decide_eq_true h1, rfl⟩) (by rw [h3]; simp)
    case round =>
      obtain ⟨left, cnt, hrg, hle, hrn, hn⟩ := hrel
      have RG := Lib.hid hrg; clear hrg
      have LE := Lib.hid hle; clear hle
      have RN := Lib.hid hrn; clear hrn
      have NW := Lib.hid hn; clear hn
      go_wp2_with (first | (at_next; refine wpList_next_ranges _ rfl _ rfl 62 chLaw (plainElem Try.prog 3) (fun x : Value => x) (Value.int .i64) (fun key kl _ => ⟨key, rfl⟩) (fun v y hv => by obtain ⟨c, rfl, _⟩ := plainElem_int_inv Try.underlying3 hv; exact ⟨c, rfl⟩) B w2.heap.size _ _ _ _ rfl RG.out ?_ ?_) | go_in)
      · intro _ hl0
        go_wp2
        go_ret2
        have hT : runsTo a b c d x (perK a b c d x) (perP a b c d x) = true := runsTo_true fun i hi => by
          unfold perP at hi
          exact RN.out _ (by omega) (by omega) (hl0 _)
        exact ⟨by rw [EQ.out, hT, HSD.out]; rfl, N2.out.trans NW.out⟩
      · intro y1 c1 kl y yp wx cnt1 hkey hlx hpl hat hrg1 hlt hg1 hs1 hen
        obtain ⟨i, hi, hSi, rfl⟩ := (HT.out.has_ kl).1 (LE.out kl hlx)
        have hK : perK a b c d x ≤ i := of_decide_eq_true hSi
        have hki := KF.out (chSt [(a, b, c, d)] x i) (OK.out i).2.2
        obtain rfl : y1 = fourV (chSt [(a, b, c, d)] x i) := chLaw.inj hkey hki
        have NW1 := Lib.hid (NW.out.iter hg1 (Nat.le_refl _))
        have RG1 := Lib.hid hrg1
        have HLT := Lib.hid hlt
        clear hrg1 hat hpl hkey hg1 hlt hlx hSi
        have HKI := Lib.hid hki; clear hki
        by_cases hr : (lvAt (chSt [(a, b, c, d)] x i) 0).2 = true
        · go_wp2
          go_roundw
          case rel =>
            refine ⟨_, cnt1, RG1.out.alloc _, fun kl h => LE.out kl (by rw [Bool.and_eq_true] at h; exact h.1), fun j hj1 hj2 hj3 => ?_, NW1.out.alloc _⟩
            by_cases q : j = i
            · subst q; rw [← lvAt_one]; exact hr
            · refine RN.out j hj1 hj2 ?_
              rw [sameKey_ne (fun g => q (AP.out j i hj2 hi g))] at hj3
              simpa using hj3
          case measure => rw [(RG1.out.alloc _).left_eq, RG.out.left_eq]; exact HLT.out
        · have hf : (lvAt (chSt [(a, b, c, d)] x i) 0).2 = false := by simpa using hr
          clear hr
          go_wp2
          go_ret2
          have hF : runsTo a b c d x (perK a b c d x) (perP a b c d x) = false := runsTo_false (i := i - perK a b c d x) (by unfold perP; omega) (by rw [show perK a b c d x + (i - perK a b c d x) = i by omega, ← lvAt_one]; exact hf)
          exact ⟨by rw [EQ.out, hF, HSD.out]; rfl, (N2.out.trans NW1.out).alloc _⟩
  · have hf : steadyB a b c d x = false := by simpa using hs
    go_enter Try.func20, Try.ntmps20
    go_wp2_with fail
    refine (roundOf_bad _ _ _ _ [(a, b, c, d)] x (lit4_reads _ _ _ _ _ _ (by simp)) (by rw [chainB_one]; exact hf)).mono ?_
    rintro e w1 ⟨rfl, n1⟩
    have N1 := Lib.hid (show New w w1 from New.trans (by repeat (first | with_reducible exact New.refl _ | with_reducible assumption | refine New.drewN ?_ _ | refine New.drew ?_ | refine New.alloc ?_ _ | refine New.setCell ?_ (by first | omega | (simp; omega) | (simp; done)) _ | (refine New.trans ?_ (by assumption)))) n1); clear n1
    go_wp2_with (refine wpList_store_mid rfl 64 (.tmp 6) (.tmp 14) rfl w1.heap.size 0 zero9.toArray rfl rfl (th9 w1) (by kernel_rfl) zero9_one ?_; obtain ⟨w2, hw2⟩ : ∃ w2, w2 = (w1.alloc (.cells #[.map none, .int .i64 0, .bool false, .int .i64 0, .bool false, .int .i64 0, .bool false, .int .i64 0, .bool false] 64)).setCells w1.heap.size 0 zero9.toArray.toList := ⟨_, rfl⟩; rw [← hw2]; have N2 := Lib.hid (show New w w2 by rw [hw2]; exact New.setCells (N1.out.alloc _) N1.out.size _ _); clear hw2)
    go_ret2
    exact ⟨by unfold neverM; rw [hf]; rfl, N2.out⟩
end Go.Proofs.Ytafiihhiipfejaa
