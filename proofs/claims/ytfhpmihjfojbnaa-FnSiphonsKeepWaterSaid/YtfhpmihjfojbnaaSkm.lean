/- Siphons keep water: what the law says of the numbers. -/
import Derived.Test.YtfhpmihjfojbnaaRun
import Derived.Test.YtfhpmihjfojbnaaEsm
namespace Go.Proofs.Ytfhpmihjfojbnaa
open Go.RowKit

theorem stK_succ (a b c d u : Int) (r : Bool) (xs : List Int) (k : Nat) : stK a b c d u r xs (k + 1) = (tkH a b c d (stK a b c d u r xs k).1 (xs[k]?.getD 0) (stK a b c d u r xs k).2, tkR a b c d (stK a b c d u r xs k).1 (xs[k]?.getD 0) (stK a b c d u r xs k).2) := rfl
theorem outsTo_get (a b c d u : Int) (r : Bool) (xs : List Int) {n k : Nat} (hk : k < n) : (outsTo a b c d u r xs n)[k]?.getD 0 = outK a b c d u r xs k := by simp [outsTo, hk]
theorem levsTo_get (a b c d u : Int) (r : Bool) (xs : List Int) {n k : Nat} (hk : k ≤ n) : (levsTo a b c d u r xs n)[k]?.getD (0, false) = stK a b c d u r xs k := by
  have : k < n + 1 := by omega
  simp [levsTo, this]
theorem tk_keep (a b c d h x : Int) (r : Bool) : h + x = tkH a b c d h x r + tkO a b c d h x r + tkS a h x := by
  unfold tkH tkG tkS; omega
/-- What comes in runs out, is spilt, or is held. -/
theorem keep_k (a b c d u : Int) (r : Bool) (xs : List Int) (n k : Nat) (hk : k ≤ n) :
    sumK xs k = sumK (outsTo a b c d u r xs n) k + spK a b c d u r xs k + (stK a b c d u r xs k).1 - u := by
  induction k with
  | zero => simp [sumK, spK, stK]
  | succ k ih =>
    have q := ih (by omega)
    have e := tk_keep a b c d (stK a b c d u r xs k).1 (xs[k]?.getD 0) (stK a b c d u r xs k).2
    rw [sumK_succ, sumK_succ, outsTo_get _ _ _ _ _ _ _ (by omega), stK_succ]
    unfold spK outK
    simp only
    omega
theorem tk_runs {a b c d h x : Int} {r : Bool} (e : tkR a b c d h x r = true) : b < tkH a b c d h x r := by
  unfold tkR at e
  rw [Bool.and_eq_true] at e
  simpa using e.2
theorem tk_flow {a b c d h x : Int} {r : Bool} (hd : 1 ≤ d) : tkO a b c d h x r ≤ d := by
  unfold tkO; split <;> omega

/-- One filling, and nothing behind it. -/
def fillX (c : Int) : List Int := (List.replicate 61 (0 : Int)).set 0 c
theorem fillX_length (c : Int) : (fillX c).length = 61 := by simp [fillX]
theorem fillX_zero (c : Int) : (fillX c)[0]?.getD 0 = c := by simp [fillX]
theorem fillX_get (c : Int) {j : Nat} (hj : 1 ≤ j) : (fillX c)[j]?.getD 0 = 0 := by
  unfold fillX
  rw [List.getElem?_set_ne (by omega), List.getElem?_replicate]
  split <;> rfl
theorem fill_k {a b c d : Int} (hs : SipOk a b c d) (k : Nat) :
    (stK a b c d 0 false (fillX c) (k + 1)).1 = max b (c - ((k : Int) + 1) * d) ∧ (stK a b c d 0 false (fillX c) (k + 1)).2 = decide (b < (stK a b c d 0 false (fillX c) (k + 1)).1) ∧ spK a b c d 0 false (fillX c) (k + 1) = 0 := by
  unfold SipOk at hs
  induction k with
  | zero =>
    have e : tkB a c 0 c false = true := by unfold tkB tkG; rw [decide_eq_true (by omega)]; rfl
    rw [stK_succ, fillX_zero]
    unfold spK
    rw [fillX_zero]
    unfold stK spK tkR tkH tkO
    simp only
    rw [e]
    unfold tkG tkS
    refine ⟨?_, by rw [Bool.true_and], by omega⟩
    simp only [if_true]
    omega
  | succ k ih =>
    obtain ⟨i1, i2, i3⟩ := ih
    have hm : ((k + 1 : Nat) : Int) + 1 = (k : Int) + 1 + 1 := by omega
    have em : ((k : Int) + 1 + 1) * d = ((k : Int) + 1) * d + d := by rw [Int.add_mul ((k : Int) + 1), Int.one_mul]
    have m1 : 0 ≤ ((k : Int) + 1) * d := Int.mul_nonneg (by omega) (by omega)
    rw [hm, em]
    obtain ⟨M, hM⟩ : ∃ M, M = ((k : Int) + 1) * d := ⟨_, rfl⟩
    rw [← hM] at i1 m1 ⊢
    rw [stK_succ, fillX_get _ (by omega)]
    have e3 : spK a b c d 0 false (fillX c) (k + 1 + 1) = spK a b c d 0 false (fillX c) (k + 1) + tkS a (stK a b c d 0 false (fillX c) (k + 1)).1 ((fillX c)[k + 1]?.getD 0) := rfl
    rw [e3, i3, fillX_get _ (by omega)]
    obtain ⟨H, hH⟩ : ∃ H, H = (stK a b c d 0 false (fillX c) (k + 1)).1 := ⟨_, rfl⟩
    rw [← hH] at i1 i2 ⊢
    rw [i2]
    by_cases hb : b < H
    · have e : tkB a c H 0 (decide (b < H)) = true := by unfold tkB; rw [decide_eq_true hb]; rfl
      unfold tkR tkH tkO
      rw [e]
      unfold tkG tkS
      refine ⟨?_, by rw [Bool.true_and], by omega⟩
      simp only [if_true]
      omega
    · have e : tkB a c H 0 (decide (b < H)) = false := by
        unfold tkB tkG; rw [decide_eq_false hb, decide_eq_false (by omega)]; rfl
      unfold tkR tkH tkO
      rw [e]
      unfold tkG tkS
      refine ⟨?_, ?_, by omega⟩
      · simp only [Bool.false_eq_true, if_false]; omega
      · simp only [Bool.false_eq_true, if_false, Bool.false_and]
        exact (decide_eq_false (by omega)).symm
theorem fill_sum (c : Int) (k : Nat) : sumK (fillX c) (k + 1) = c := by
  induction k with
  | zero => unfold sumK sumK; rw [fillX_zero]; omega
  | succ k ih => rw [sumK_succ, ih, fillX_get _ (by omega)]; omega
/-- What runs out of one filling is the capacity. -/
theorem fill_out {a b c d : Int} (hs : SipOk a b c d) : runB a b c d 0 (fillX c) = true ∧ sumM (outsM a b c d 0 false (fillX c)) = capM a b c d := by
  have h1 : runB a b c d 0 (fillX c) = true := by
    rw [runB_iff, fillX_length]
    unfold SipOk at hs
    refine ⟨⟨hs, by omega, by omega⟩, by omega, fun j _ => ?_⟩
    by_cases hj : j = 0
    · subst hj; rw [fillX_zero]; omega
    · rw [fillX_get _ (by omega)]; omega
  refine ⟨h1, ?_⟩
  unfold outsM capM
  rw [if_pos h1, if_pos (sipB_iff.2 hs)]
  unfold sumM
  rw [outsTo_length, fillX_length]
  have k := keep_k a b c d 0 false (fillX c) 61 61 (Nat.le_refl _)
  have f := fill_k hs 60
  rw [fill_sum c 60] at k
  obtain ⟨f1, _, f3⟩ := f
  unfold SipOk at hs
  have : ((60 : Nat) : Int) + 1 = 61 := by omega
  rw [this] at f1
  have f1' : (stK a b c d 0 false (fillX c) 61).1 = max b (c - 61 * d) := f1
  have f3' : spK a b c d 0 false (fillX c) 61 = 0 := f3
  omega
end Go.Proofs.Ytfhpmihjfojbnaa
