/- What flows through a pipe: as the model reckons it and as the program does, and that they are the same. -/
import Derived.Test.YtkhniokfpmhonaaOrdM
namespace Go.Proofs.Ytkhniokfpmhonaa
open Go.RowKit

def lvR (t : Tk) : Int × Int := red (t.1 * t.2.1 + t.2.2) t.1
def numT (t : Tk) : Int := t.1 * t.2.1 + t.2.2
/-- What flows from the tank with the greater level, as the model reckons. -/
def thrR (A B : Tk) (h : Int) : Int × Int :=
  if ¬ h * (lvR A).2 < (lvR A).1 * 1 then (0, 1)
  else if numT B + (numT A - h * A.1) ≤ h * B.1 then red (numT A - h * A.1) 1
  else red (A.2.2 * (red (upTo (red (numT A + numT B) (A.1 + B.1)).1 (red (numT A + numT B) (A.1 + B.1)).2 A) (red (numT A + numT B) (A.1 + B.1)).2).2 - (red (upTo (red (numT A + numT B) (A.1 + B.1)).1 (red (numT A + numT B) (A.1 + B.1)).2 A) (red (numT A + numT B) (A.1 + B.1)).2).1) (red (upTo (red (numT A + numT B) (A.1 + B.1)).1 (red (numT A + numT B) (A.1 + B.1)).2 A) (red (numT A + numT B) (A.1 + B.1)).2).2
/-- Where both come to rest, as the program reckons. -/
noncomputable def restR (A B : Tk) (h : Int) : Int × Int := if (comR [A, B]).1 * 1 < h * (comR [A, B]).2 then (h, 1) else comR [A, B]
/-- What flows, as the program reckons. -/
noncomputable def pflR (A B : Tk) (h : Int) : Int × Int :=
  if (lvR A).1 * (restR A B h).2 < (restR A B h).1 * (lvR A).2 then (0, 1)
  else red ((red ((lvR A).1 * (restR A B h).2 - (restR A B h).1 * (lvR A).2) ((lvR A).2 * (restR A B h).2)).1 * A.1) (red ((lvR A).1 * (restR A B h).2 - (restR A B h).1 * (lvR A).2) ((lvR A).2 * (restR A B h).2)).2

theorem two_ok {A B : Tk} (hA : TkOk A) (hB : TkOk B) : TksOk [A, B] := ⟨by simp, by simp, fun t ht => by
  rcases List.mem_cons.1 ht with rfl | ht
  · exact hA
  · rcases List.mem_cons.1 ht with rfl | ht
    · exact hB
    · simp at ht⟩
theorem below_two (A B : Tk) (n d : Int) : belowL n d [A, B] = A.1 * max 0 (n - A.2.1 * d) + B.1 * max 0 (n - B.2.1 * d) := by
  simp [belowL, sumL, upTo]
theorem wat_two (A B : Tk) : watL [A, B] = A.2.2 + B.2.2 := by simp [watL, sumL]
theorem lv_cross (t : Tk) : (lvR t).1 * t.1 = numT t * (lvR t).2 := red_cross _ _
theorem lv_pos {t : Tk} (h : TkOk t) : 0 < (lvR t).2 := red_pos (by have := h.a1; omega)
theorem mul_lt_iff {a b c : Int} (hc : 0 < c) : a * c < b * c ↔ a < b := ⟨fun h => Int.lt_of_mul_lt_mul_right h (by omega), fun h => Int.mul_lt_mul_of_pos_right h hc⟩
theorem mul_le_iff {a b c : Int} (hc : 0 < c) : a * c ≤ b * c ↔ a ≤ b := ⟨fun h => Int.le_of_mul_le_mul_right h hc, fun h => Int.mul_le_mul_of_nonneg_right h (by omega)⟩
theorem lv_gt {t : Tk} (ht : TkOk t) (h : Int) : h * (lvR t).2 < (lvR t).1 * 1 ↔ h * t.1 < numT t := by
  have hd := lv_pos ht
  have ha := ht.a1
  have hc := lv_cross t
  rw [Int.mul_one, ← mul_lt_iff (show 0 < t.1 by omega), hc]
  have e : h * (lvR t).2 * t.1 = h * t.1 * (lvR t).2 := by grind
  rw [e, mul_lt_iff hd]
/-- The rest, where the common level is not above the height. -/
theorem rest_low {A B : Tk} (hA : TkOk A) (hB : TkOk B) {h : Int} (hle : (comR [A, B]).1 ≤ h * (comR [A, B]).2) : restR A B h = (h, 1) := by
  have hl := com_lvl (two_ok hA hB)
  have hp := hl.pos
  unfold restR
  by_cases hlt : (comR [A, B]).1 * 1 < h * (comR [A, B]).2
  · rw [if_pos hlt]
  · rw [if_neg hlt]
    have := cross_eq hp (show (0 : Int) < 1 by decide) hl.cop (show Int.gcd h 1 = 1 by simp) (by omega)
    exact Prod.ext this.1 this.2
theorem com_low {A B : Tk} (hA : TkOk A) (hB : TkOk B) {h : Int} (hf : A.2.1 ≤ h) (hg : B.2.1 ≤ h) (ht : numT A + numT B ≤ h * A.1 + h * B.1) : (comR [A, B]).1 ≤ h * (comR [A, B]).2 := by
  have hl := com_lvl (two_ok hA hB)
  have := hl.le (two_ok hA hB).all (n := h) (d := 1) (by decide) (by
    rw [below_two, wat_two, Int.mul_one, Int.mul_one, Int.mul_one, Int.max_eq_right (by omega), Int.max_eq_right (by omega)]
    unfold numT at ht
    have e1 : A.1 * (h - A.2.1) = h * A.1 - A.1 * A.2.1 := by grind
    have e2 : B.1 * (h - B.2.1) = h * B.1 - B.1 * B.2.1 := by grind
    omega) ⟨A, by simp, by omega⟩
  omega
/-- The flow out of a rest that is not above the level. -/
theorem flow_of {A : Tk} (hA : TkOk A) {p q : Int} (hq : 0 < q) :
    red ((red ((lvR A).1 * q - p * (lvR A).2) ((lvR A).2 * q)).1 * A.1) (red ((lvR A).1 * q - p * (lvR A).2) ((lvR A).2 * q)).2 = red (numT A * q - p * A.1) q := by
  have hd := lv_pos hA
  have hc := lv_cross A
  have hdq := Int.mul_pos hd hq
  have rp := red_pos (n := (lvR A).1 * q - p * (lvR A).2) hdq
  have rc := red_cross ((lvR A).1 * q - p * (lvR A).2) ((lvR A).2 * q)
  refine red_eq rp hq ?_
  generalize (red ((lvR A).1 * q - p * (lvR A).2) ((lvR A).2 * q)).1 = x at *
  generalize (red ((lvR A).1 * q - p * (lvR A).2) ((lvR A).2 * q)).2 = y at *
  generalize (lvR A).1 = n at *
  generalize (lvR A).2 = d at *
  refine Int.eq_of_mul_eq_mul_right (a := d) (by omega) ?_
  calc x * A.1 * q * d = (x * (d * q)) * A.1 := by grind
    _ = ((n * q - p * d) * y) * A.1 := by rw [rc]
    _ = (n * A.1 * q - p * d * A.1) * y := by grind
    _ = (numT A * d * q - p * d * A.1) * y := by rw [hc]
    _ = (numT A * q - p * A.1) * y * d := by grind

theorem thr_eq {A B : Tk} (hA : TkOk A) (hB : TkOk B) {h : Int} (hf : A.2.1 ≤ h) (hg : B.2.1 ≤ h) (hge : ¬ (lvR A).1 * (lvR B).2 < (lvR B).1 * (lvR A).2) : pflR A B h = thrR A B h := by
  have a1 := hA.a1
  have b1 := hB.a1
  have dA := lv_pos hA
  have dB := lv_pos hB
  have cA := lv_cross A
  have cB := lv_cross B
  -- levels compared by the tanks' numbers
  have hMN : numT B * A.1 ≤ numT A * B.1 := by
    have h0 : (lvR B).1 * (lvR A).2 ≤ (lvR A).1 * (lvR B).2 := by omega
    rw [← mul_le_iff dA, ← mul_le_iff dB]
    have h1 : ((lvR B).1 * (lvR A).2) * (A.1 * B.1) ≤ ((lvR A).1 * (lvR B).2) * (A.1 * B.1) := Int.mul_le_mul_of_nonneg_right h0 (Int.mul_nonneg (by omega) (by omega))
    have e1 : ((lvR B).1 * (lvR A).2) * (A.1 * B.1) = numT B * A.1 * (lvR A).2 * (lvR B).2 := by
      calc ((lvR B).1 * (lvR A).2) * (A.1 * B.1) = ((lvR B).1 * B.1) * A.1 * (lvR A).2 := by grind
        _ = (numT B * (lvR B).2) * A.1 * (lvR A).2 := by rw [cB]
        _ = _ := by grind
    have e2 : ((lvR A).1 * (lvR B).2) * (A.1 * B.1) = numT A * B.1 * (lvR A).2 * (lvR B).2 := by
      calc ((lvR A).1 * (lvR B).2) * (A.1 * B.1) = ((lvR A).1 * A.1) * B.1 * (lvR B).2 := by grind
        _ = (numT A * (lvR A).2) * B.1 * (lvR B).2 := by rw [cA]
        _ = _ := by grind
    rw [← e1, ← e2]; exact h1
  have gtA := lv_gt hA h
  unfold thrR
  by_cases c1 : h * (lvR A).2 < (lvR A).1 * 1
  · rw [if_neg (by simpa using c1)]
    have c1' := gtA.1 c1
    by_cases c2 : numT B + (numT A - h * A.1) ≤ h * B.1
    · rw [if_pos c2]
      have hr := rest_low hA hB (com_low hA hB hf hg (by omega))
      unfold pflR
      rw [hr]
      rw [if_neg (by simp only; omega)]
      simp only
      rw [flow_of hA (show (0 : Int) < 1 by decide)]
      rw [Int.mul_one]
    · rw [if_neg c2]
      have ht : h * A.1 + h * B.1 < numT A + numT B := by omega
      have hs : 0 < A.1 + B.1 := by omega
      have lo : ∀ x, x ≤ h → x * (A.1 + B.1) ≤ numT A + numT B := fun x hx => by
        have := Int.mul_le_mul_of_nonneg_right hx (show 0 ≤ A.1 + B.1 by omega)
        rw [Int.mul_add h] at this
        omega
      have hcom : comR [A, B] = red (numT A + numT B) (A.1 + B.1) := by
        refine com_eq (two_ok hA hB) (lvl_of hs ?_ ⟨A, by simp, lo _ hf⟩)
        rw [below_two, wat_two, Int.max_eq_right (by have := lo _ hf; omega), Int.max_eq_right (by have := lo _ hg; omega)]
        unfold numT
        grind
      have hrp := red_pos (n := numT A + numT B) hs
      have hrc := red_cross (numT A + numT B) (A.1 + B.1)
      have hgt : h * (red (numT A + numT B) (A.1 + B.1)).2 < (red (numT A + numT B) (A.1 + B.1)).1 := by
        rw [← mul_lt_iff hs, hrc]
        have e : h * (red (numT A + numT B) (A.1 + B.1)).2 * (A.1 + B.1) = (h * A.1 + h * B.1) * (red (numT A + numT B) (A.1 + B.1)).2 := by grind
        rw [e]
        exact Int.mul_lt_mul_of_pos_right ht hrp
      have hrest : restR A B h = red (numT A + numT B) (A.1 + B.1) := by
        unfold restR
        rw [hcom, if_neg (by omega)]
      generalize hX : red (numT A + numT B) (A.1 + B.1) = X at *
      obtain ⟨p, q⟩ := X
      simp only at *
      have hle : p * (lvR A).2 ≤ (lvR A).1 * q := by
        rw [← mul_le_iff (show 0 < A.1 * (A.1 + B.1) from Int.mul_pos (by omega) hs)]
        have e1 : p * (lvR A).2 * (A.1 * (A.1 + B.1)) = ((numT A + numT B) * A.1) * (q * (lvR A).2) := by
          calc p * (lvR A).2 * (A.1 * (A.1 + B.1)) = (p * (A.1 + B.1)) * A.1 * (lvR A).2 := by grind
            _ = ((numT A + numT B) * q) * A.1 * (lvR A).2 := by rw [hrc]
            _ = _ := by grind
        have e2 : (lvR A).1 * q * (A.1 * (A.1 + B.1)) = (numT A * (A.1 + B.1)) * (q * (lvR A).2) := by
          calc (lvR A).1 * q * (A.1 * (A.1 + B.1)) = ((lvR A).1 * A.1) * q * (A.1 + B.1) := by grind
            _ = (numT A * (lvR A).2) * q * (A.1 + B.1) := by rw [cA]
            _ = _ := by grind
        rw [e1, e2]
        refine Int.mul_le_mul_of_nonneg_right ?_ (Int.mul_nonneg (by omega) (by omega))
        rw [Int.add_mul, Int.mul_add]
        omega
      unfold pflR
      rw [hrest]
      simp only
      rw [if_neg (by omega), flow_of hA hrp]
      -- what A has at the common level
      have hfq : A.2.1 * q ≤ p := by
        have := Int.mul_le_mul_of_nonneg_right hf (show 0 ≤ q by omega); omega
      have eU : upTo p q A = A.1 * (p - A.2.1 * q) := by unfold upTo; rw [Int.max_eq_right (by omega)]
      have up := red_pos (n := upTo p q A) hrp
      have uc := red_cross (upTo p q A) q
      refine (red_eq up hrp ?_).symm
      generalize (red (upTo p q A) q).1 = s at *
      generalize (red (upTo p q A) q).2 = t at *
      rw [eU] at uc
      calc (A.2.2 * t - s) * q = A.2.2 * t * q - s * q := by grind
        _ = A.2.2 * t * q - A.1 * (p - A.2.1 * q) * t := by rw [uc]
        _ = (numT A * q - p * A.1) * t := by unfold numT; grind
  · rw [if_pos (by simpa using c1)]
    have c1' : numT A ≤ h * A.1 := by
      have : ¬ h * A.1 < numT A := fun k => c1 (gtA.2 k)
      omega
    have c2 : numT B ≤ h * B.1 := by
      rw [← mul_le_iff (show 0 < A.1 by omega)]
      have := Int.mul_le_mul_of_nonneg_right c1' (show 0 ≤ B.1 by omega)
      have e : h * A.1 * B.1 = h * B.1 * A.1 := by grind
      omega
    have hr := rest_low hA hB (com_low hA hB hf hg (by omega))
    unfold pflR
    rw [hr]
    by_cases c3 : (lvR A).1 * ((h, (1 : Int)) : Int × Int).2 < ((h, (1 : Int)) : Int × Int).1 * (lvR A).2
    · rw [if_pos c3]
    · rw [if_neg c3]
      simp only at c3 ⊢
      rw [flow_of hA (show (0 : Int) < 1 by decide), Int.mul_one]
      have e0 : numT A = h * A.1 := by
        have e1 : (lvR A).1 = h * (lvR A).2 := by omega
        rw [e1] at cA
        have e2 : (h * A.1) * (lvR A).2 = numT A * (lvR A).2 := by rw [← cA]; grind
        exact (Int.eq_of_mul_eq_mul_right (by omega) e2).symm
      rw [e0, Int.sub_self]
      exact red_unique (by decide) (by decide) (by decide) (by decide)
end Go.Proofs.Ytkhniokfpmhonaa
