/- How much the program says is spilt in a period, whatever order the map gives. -/
import Derived.Test.YtafiihhiipfejaaRead9
namespace Go.Proofs.Ytafiihhiipfejaa
open Go.RowKit Go.Maps

theorem New.grown0 {w w' : World} (h : New w w') : w.grownBy w' none := ⟨h.os, h.tape, h.output, h.size, fun k hk _ => h.block k hk⟩
theorem spP_nat {a b c d x : Int} (hs : SipOk a b c d) (x0 : 0 ≤ x) (x1 : x ≤ 60) (i : Nat) : 0 ≤ spP a b c d x i ∧ spP a b c d x i ≤ 60 := spP_bd hs x0 x1 i
def sumOf (S : Nat → Bool) (f : Nat → Int) : Nat → Int
  | 0 => 0
  | n + 1 => sumOf S f n + if S n = true then f n else 0
theorem sumOf_congr {S T : Nat → Bool} {f : Nat → Int} {n : Nat} (h : ∀ i, i < n → S i = T i) : sumOf S f n = sumOf T f n := by
  induction n with
  | zero => rfl
  | succ n ih => unfold sumOf; rw [ih fun i hi => h i (by omega), h n (by omega)]
theorem sumOf_bd {S : Nat → Bool} {f : Nat → Int} {n : Nat} (h : ∀ i, 0 ≤ f i ∧ f i ≤ 60) : 0 ≤ sumOf S f n ∧ sumOf S f n ≤ 60 * n := by
  induction n with
  | zero => exact ⟨by simp [sumOf], by simp [sumOf]⟩
  | succ n ih =>
    have q := h n
    unfold sumOf
    by_cases e : S n = true
    · rw [if_pos e]; omega
    · rw [if_neg e]; omega
theorem sumOf_put {S : Nat → Bool} {f : Nat → Int} {n i : Nat} (hi : i < n) (hS : S i = false) : sumOf (fun j => S j || decide (j = i)) f n = sumOf S f n + f i := by
  induction n with
  | zero => omega
  | succ n ih =>
    unfold sumOf
    by_cases e : i = n
    · subst e
      have : sumOf (fun j => S j || decide (j = i)) f i = sumOf S f i := sumOf_congr fun j hj => by rw [decide_eq_false (by omega)]; simp
      rw [this]
      simp [hS]
    · rw [ih (by omega)]
      have : (S n || decide (n = i)) = S n := by rw [decide_eq_false (by omega)]; simp
      rw [this]
      omega
theorem sumOf_none (f : Nat → Int) (n : Nat) {S : Nat → Bool} (h : ∀ i, i < n → S i = false) : sumOf S f n = 0 := by
  induction n with
  | zero => rfl
  | succ n ih => unfold sumOf; rw [ih fun i hi => h i (by omega), h n (by omega)]; simp
theorem sumOf_from (a b c d x : Int) (K : Nat) (j : Nat) : sumOf (fun i => decide (K ≤ i)) (spP a b c d x) (K + j) = spTo a b c d x K j := by
  induction j with
  | zero => exact sumOf_none _ _ fun i hi => decide_eq_false (by omega)
  | succ j ih =>
    have e : sumOf (fun i => decide (K ≤ i)) (spP a b c d x) (K + j + 1) = sumOf (fun i => decide (K ≤ i)) (spP a b c d x) (K + j) + (if decide (K ≤ K + j) = true then spP a b c d x (K + j) else 0) := rfl
    show sumOf _ _ (K + j + 1) = spTo a b c d x K j + spP a b c d x (K + j)
    rw [e, ih, if_pos (decide_eq_true (by omega))]

set_option maxRecDepth 100000 in
set_option maxHeartbeats 4000000 in
theorem iSpiltInPeriod_any (w : World) (a b c d x : Int) :
    Calls Try.prog 18 #[sipV a b c d, .int .i64 x] w fun e w' => e = .returned (.tuple #[.int .i64 (spiltM a b c d x), .bool (steadyB a b c d x)]) ∧ New w w' := by
  by_cases hs : steadyB a b c d x = true
  · have EQ := Lib.hid (show spiltM a b c d x = spTo a b c d x (perK a b c d x) (perP a b c d x) by unfold spiltM; rw [if_pos hs])
    obtain ⟨ho, x0, x1⟩ := steadyB_iff.1 hs
    obtain ⟨kf, hkf⟩ := keyFn_ex
    obtain ⟨hm, hn⟩ := per_ex (x := x) ho x0
    have KN : perK a b c d x < perN a b c d x := hm.2.1
    have AP := Lib.hid (apart_of hkf (chain_one ho) x0 x1 (meets_one.2 hm).1)
    have OK := Lib.hid (chSt_ok (x := x) (chain_one ho) x0 x1)
    have HM := Lib.hid (meets_one.2 hm); clear hm
    have HSD := Lib.hid hs; clear hs
    have HS := Lib.hid ho; clear ho
    go_enter Try.func18, Try.ntmps18
    go_wp2_with fail
    refine (roundOf_yes hkf _ _ _ _ [(a, b, c, d)] x _ _ (lit4_reads _ _ _ _ _ _ (by simp)) (by rw [chainB_one]; exact sipB_iff.2 HS.out) (inB_iff.2 ⟨x0, x1⟩) HM.out (by omega)).mono ?_
    rintro e w1 ⟨B, D, rfl, hB, hom, ht, n1⟩
    have KF := Lib.hid hkf; clear hkf
    have b0 : w1.cell? ⟨w.heap.size, 0, none⟩ = some (.int .i64 a) := n1.cell (by simp [go_sem])
    have b1 : w1.cell? ⟨w.heap.size, 1, none⟩ = some (.int .i64 b) := n1.cell (by simp [go_sem])
    have b2 : w1.cell? ⟨w.heap.size, 2, none⟩ = some (.int .i64 c) := n1.cell (by simp [go_sem])
    have b3 : w1.cell? ⟨w.heap.size, 3, none⟩ = some (.int .i64 d) := n1.cell (by simp [go_sem])
    have zs : w.heap.size < w1.heap.size := World.block_lt_of_cell? _ _ b0
    have N1 := Lib.hid (show New w w1 from New.trans (by repeat (first | with_reducible exact New.refl _ | with_reducible assumption | refine New.drewN ?_ _ | refine New.drew ?_ | refine New.alloc ?_ _ | refine New.setCell ?_ (by first | omega | (simp; omega) | (simp; done)) _ | (refine New.trans ?_ (by assumption)))) n1); clear n1
    have HB0 := Lib.hid (show w.heap.size ≤ B by simp at hB; omega); clear hB
    have HT := Lib.hid ht; clear ht
    have HO1 := Lib.hid hom; clear hom
    go_wp2_with (first | (refine wpList_store_mid rfl 64 (.tmp 6) (.tmp 18) rfl w1.heap.size 0 (roundC B (chSt [(a, b, c, d)] x (perK a b c d x))).toArray rfl rfl (th9 w1) (by kernel_rfl) (roundC_one _ _) ?_; obtain ⟨w2, hw2⟩ : ∃ w2, w2 = (w1.alloc (.cells #[.map none, .int .i64 0, .bool false, .int .i64 0, .bool false, .int .i64 0, .bool false, .int .i64 0, .bool false] 64)).setCells w1.heap.size 0 (roundC B (chSt [(a, b, c, d)] x (perK a b c d x))).toArray.toList := ⟨_, rfl⟩; rw [← hw2]; obtain ⟨d0, d1, d2, n12, ho2, z2⟩ := stored_yes hw2 HO1.out; clear hw2; replace b0 := n12.cell b0; replace b1 := n12.cell b1; replace b2 := n12.cell b2; replace b3 := n12.cell b3; have OM := Lib.hid ho2; have N2 := Lib.hid (N1.out.trans n12); clear n12 ho2) | (at_range; refine wpList_range_own _ rfl _ 60 rfl 62 3 chLaw Try.underlying60 _ B _ D rfl OM.out ?_; intro w3 hrg0 hg0 hs0) | go_in)
    go_frame
    have RG0 := Lib.hid hrg0; clear hrg0
    have NR0 := Lib.hid (New.first hg0); clear hg0 hs0 d0 d1 d2
    have PP := Lib.hid (And.intro b0 (And.intro b1 (And.intro b2 b3))); clear b0 b1 b2 b3
    go_loopw [8, 25] (fun s _ wr => ∃ (left : Lit → Bool) (cnt : Nat), s = .int .i64 (sumOf (fun j => decide (perK a b c d x ≤ j) && !left (kf (chSt [(a, b, c, d)] x j))) (spP a b c d x) (perN a b c d x)) ∧ wr.ranges Try.prog 62 (plainElem Try.prog 3) B w2.heap.size (perN a b c d x) D left cnt ∧ (∀ kl, left kl = true → has D kl = true) ∧ New w2 wr)
      (fun _ _ wr => wr.rangeLeft B w2.heap.size)
    case atStart =>
      refine ⟨_, _, ?_, RG0.out, fun _ h => h, NR0.out⟩
      congr 1
      refine (sumOf_none _ _ fun i hi => ?_).symm
      by_cases h1 : perK a b c d x ≤ i
      · rw [(HT.out.has_ _).2 ⟨i, hi, decide_eq_true h1, rfl⟩]; simp
      · rw [decide_eq_false h1]; rfl
    case round =>
      obtain ⟨left, cnt, rfl, hrg, hle, hn⟩ := hrel
      have RG := Lib.hid hrg; clear hrg
      have LE := Lib.hid hle; clear hle
      have NW := Lib.hid hn; clear hn
      obtain ⟨sm, hsm⟩ : ∃ sm, sm = sumOf (fun j => decide (perK a b c d x ≤ j) && !left (kf (chSt [(a, b, c, d)] x j))) (spP a b c d x) (perN a b c d x) := ⟨_, rfl⟩
      have sb := sumOf_bd (S := fun j => decide (perK a b c d x ≤ j) && !left (kf (chSt [(a, b, c, d)] x j))) (n := perN a b c d x) (spP_nat HS.out x0 x1)
      rw [← hsm] at sb ⊢
      obtain ⟨sb0, sb1⟩ := sb
      have HSM := Lib.hid hsm; clear hsm
      go_wp2_with (first | (at_next; refine wpList_next_ranges _ rfl _ rfl 62 chLaw (plainElem Try.prog 3) (fun x : Value => x) (Value.int .i64) (fun key kl _ => ⟨key, rfl⟩) (fun v y hv => by obtain ⟨c, rfl, _⟩ := plainElem_int_inv Try.underlying3 hv; exact ⟨c, rfl⟩) B w2.heap.size _ _ _ _ rfl RG.out ?_ ?_) | go_in)
      · intro _ hl0
        go_wp2
        go_ret2
        have hT : sm = spTo a b c d x (perK a b c d x) (perP a b c d x) := by
          rw [HSM.out, ← sumOf_from]
          unfold perP
          rw [show perK a b c d x + (perN a b c d x - perK a b c d x) = perN a b c d x by omega]
          exact sumOf_congr fun i hi => by rw [hl0]; simp
        exact ⟨by rw [EQ.out, ← hT, HSD.out]; rfl, N2.out.trans NW.out⟩
      · intro y1 c1 kl y yp wx cnt1 hkey hlx hpl hat hrg1 hlt hg1 hs1 hen
        obtain ⟨i, hi, hSi, rfl⟩ := (HT.out.has_ kl).1 (LE.out kl hlx)
        have hK : perK a b c d x ≤ i := of_decide_eq_true hSi
        have hki := KF.out (chSt [(a, b, c, d)] x i) (OK.out i).2.2
        obtain rfl : y1 = fourV (chSt [(a, b, c, d)] x i) := chLaw.inj hkey hki
        have NW1 := Lib.hid (NW.out.iter hg1 (Nat.le_refl _))
        have RG1 := Lib.hid hrg1
        have HLT := Lib.hid hlt
        have HLX := Lib.hid hlx
        have b0 := NW1.out.cell PP.out.1
        have b1 := NW1.out.cell PP.out.2.1
        have b2 := NW1.out.cell PP.out.2.2.1
        have b3 := NW1.out.cell PP.out.2.2.2
        have ub := cst_bd (a := a) (b := b) (c := c) (d := d) HS.out x0 i
        have sp := spP_bd HS.out x0 x1 i
        unfold spP at sp
        rw [← lvAt_one] at ub sp
        obtain ⟨ub0, ub1⟩ := ub
        obtain ⟨sp0, sp1⟩ := sp
        have zx := NW1.out.size
        have zw : w.heap.size < wx.heap.size := by omega
        have zr : w.heap.size < wr.heap.size := by have := NW.out.size; omega
        clear hrg1 hat hpl hkey hg1 hlt hlx hSi
        have HKI := Lib.hid hki; clear hki
        go_wp2_with fail
        refine (siphonTick_any _ _ _ _ _ _ _ _ HS.out ub0 ub1 x0 x1).mono ?_
        rintro e w5 ⟨rfl, n5⟩
        have RG5 := Lib.hid ((RG1.out.alloc _).kept n5.grown0 (by simp) (by simp))
        have NW5 := Lib.hid ((NW1.out.alloc _).trans n5); clear n5
        have sw : 0 ≤ sm + tkS a (lvAt (chSt [(a, b, c, d)] x i) 0).1 x ∧ sm + tkS a (lvAt (chSt [(a, b, c, d)] x i) 0).1 x ≤ 10000 := by omega
        obtain ⟨sw0, sw1⟩ := sw
        go_wp2
        go_roundw
        case rel =>
          refine ⟨_, cnt1, ?_, RG5.out.alloc _, fun kl h => LE.out kl (by rw [Bool.and_eq_true] at h; exact h.1), NW5.out.alloc _⟩
          have q := sumOf_put (S := fun j => decide (perK a b c d x ≤ j) && !left (kf (chSt [(a, b, c, d)] x j))) (f := spP a b c d x) hi (by rw [HLX.out]; simp)
          rw [← HSM.out] at q
          rw [show sm + tkS a (lvAt (chSt [(a, b, c, d)] x i) 0).1 x = sm + spP a b c d x i by unfold spP; rw [lvAt_one], ← q]
          congr 1
          refine sumOf_congr fun j hj => ?_
          have hk := chLaw.key HKI.out
          by_cases g : j = i
          · subst g
            rw [WideAt.sameKey_self hk, decide_eq_true hK]
            simp
          · rw [sameKey_ne (fun q => g (AP.out j i hj hi q)), decide_eq_false g]
            simp
        case measure => rw [(RG5.out.alloc _).left_eq, RG.out.left_eq]; exact HLT.out

  · have hf : steadyB a b c d x = false := by simpa using hs
    go_enter Try.func18, Try.ntmps18
    go_wp2_with fail
    refine (roundOf_bad _ _ _ _ [(a, b, c, d)] x (lit4_reads _ _ _ _ _ _ (by simp)) (by rw [chainB_one]; exact hf)).mono ?_
    rintro e w1 ⟨rfl, n1⟩
    have N1 := Lib.hid (show New w w1 from New.trans (by repeat (first | with_reducible exact New.refl _ | with_reducible assumption | refine New.drewN ?_ _ | refine New.drew ?_ | refine New.alloc ?_ _ | refine New.setCell ?_ (by first | omega | (simp; omega) | (simp; done)) _ | (refine New.trans ?_ (by assumption)))) n1); clear n1
    go_wp2_with (refine wpList_store_mid rfl 64 (.tmp 6) (.tmp 18) rfl w1.heap.size 0 zero9.toArray rfl rfl (th9 w1) (by kernel_rfl) zero9_one ?_; obtain ⟨w2, hw2⟩ : ∃ w2, w2 = (w1.alloc (.cells #[.map none, .int .i64 0, .bool false, .int .i64 0, .bool false, .int .i64 0, .bool false, .int .i64 0, .bool false] 64)).setCells w1.heap.size 0 zero9.toArray.toList := ⟨_, rfl⟩; rw [← hw2]; have N2 := Lib.hid (show New w w2 by rw [hw2]; exact New.setCells (N1.out.alloc _) N1.out.size _ _); clear hw2)
    go_ret2
    exact ⟨by unfold spiltM; rw [hf]; rfl, N2.out⟩
end Go.Proofs.Ytafiihhiipfejaa
