/- Gauges of rain, on numbers. -/
import Derived.Test.YtaonebglbcgghaaBuck
namespace Go.Proofs.Ytaonebglbcgghaa
open Go.RowKit

def dayB (xs : List Int) : Bool := decide (xs.length ≤ 100) && allB 0 10000 xs
theorem dayB_iff {xs : List Int} : dayB xs = true ↔ xs.length ≤ 100 ∧ ∀ j, j < xs.length → 0 ≤ xs[j]?.getD 0 ∧ xs[j]?.getD 0 ≤ 10000 := by
  unfold dayB; rw [Bool.and_eq_true, decide_eq_true_eq, allB_iff]
def rainB (r : Int) (xs : List Int) : Bool := inB 1 60 r && dayB xs
def RainOk (r : Int) (xs : List Int) : Prop := (1 ≤ r ∧ r ≤ 60) ∧ xs.length ≤ 100 ∧ ∀ j, j < xs.length → 0 ≤ xs[j]?.getD 0 ∧ xs[j]?.getD 0 ≤ 10000
theorem rainB_iff {r : Int} {xs : List Int} : rainB r xs = true ↔ RainOk r xs := by
  unfold rainB RainOk; rw [Bool.and_eq_true, inB_iff, dayB_iff]

/-- What the gauge holds ahead of the day k; how often it tips on this day. -/
def gaK (r : Int) (xs : List Int) : Nat → Int
  | 0 => 0
  | k + 1 => (gaK r xs k + xs[k]?.getD 0) % r
def tgK (r : Int) (xs : List Int) (k : Nat) : Int := (gaK r xs k + xs[k]?.getD 0) / r
def tgTo (r : Int) (xs : List Int) (k : Nat) : List Int := (List.range k).map (tgK r xs)
theorem tgTo_length (r : Int) (xs : List Int) (k : Nat) : (tgTo r xs k).length = k := by simp [tgTo]
theorem tgTo_succ (r : Int) (xs : List Int) (k : Nat) : tgTo r xs (k + 1) = tgTo r xs k ++ [tgK r xs k] := by simp [tgTo, List.range_succ]
theorem tgTo_get (r : Int) (xs : List Int) {k j : Nat} (hj : j < k) : (tgTo r xs k)[j]?.getD 0 = tgK r xs j := by simp [tgTo, hj]
theorem gaK_bd {r : Int} {xs : List Int} (h : RainOk r xs) (k : Nat) (hk : k ≤ xs.length) : 0 ≤ gaK r xs k ∧ gaK r xs k < r := by
  induction k with
  | zero => have := h.1; exact ⟨by simp [gaK], by simp [gaK]; omega⟩
  | succ k ih =>
    have q := ih (by omega)
    have q1 := h.2.2 k (by omega)
    have q2 := divBd1 (a := gaK r xs k + xs[k]?.getD 0) (c := r) (by omega) h.1.1
    unfold gaK
    omega
theorem tgK_bd {r : Int} {xs : List Int} (h : RainOk r xs) {k : Nat} (hk : k < xs.length) : 0 ≤ tgK r xs k ∧ tgK r xs k ≤ 10060 := by
  have q := gaK_bd h k (by omega)
  have q1 := h.2.2 k hk
  have q0 := h.1
  have q2 := divBd1 (a := gaK r xs k + xs[k]?.getD 0) (c := r) (by omega) h.1.1
  unfold tgK
  omega
def tipsM (r : Int) (xs : List Int) : List Int := if rainB r xs = true then tgTo r xs xs.length else []
def restM (r : Int) (xs : List Int) : Int := if rainB r xs = true then gaK r xs xs.length else 0
theorem tipsM_small (r : Int) (xs : List Int) : (tipsM r xs).length ≤ 1048576 := by
  unfold tipsM
  split
  · rename_i h
    rw [tgTo_length]
    have := (rainB_iff.1 h).2.1
    omega
  · simp

/-- The sum of the first k numbers. -/
def sumK (xs : List Int) : Nat → Int
  | 0 => 0
  | k + 1 => sumK xs k + xs[k]?.getD 0
theorem sumK_bd {r : Int} {xs : List Int} (h : RainOk r xs) (k : Nat) (hk : k ≤ xs.length) : 0 ≤ sumK xs k ∧ sumK xs k ≤ 10000 * k := by
  induction k with
  | zero => exact ⟨by simp [sumK], by simp [sumK]⟩
  | succ k ih =>
    have q := ih (by omega)
    have q1 := h.2.2 k (by omega)
    unfold sumK
    omega
def sumM (xs : List Int) : Int := sumK xs xs.length
theorem sumM_bd {r : Int} {xs : List Int} (h : RainOk r xs) : 0 ≤ sumM xs ∧ sumM xs ≤ 1000000 := by
  have q := sumK_bd h xs.length (Nat.le_refl _)
  have q1 := h.2.1
  unfold sumM
  omega
/-- As much in units of rain. -/
theorem low_bd {r s : Int} (h1 : 1 ≤ r) (h2 : r ≤ 60) (s0 : 0 ≤ s) (s1 : s ≤ 1000000) : 0 ≤ r * s ∧ r * s ≤ 60000000 := by
  have q1 : 0 ≤ r * s := Int.mul_nonneg (by omega) s0
  have q2 : r * s ≤ 60 * 1000000 := Int.mul_le_mul h2 s1 s0 (by omega)
  omega
def lowM (r : Int) (xs : List Int) : Int := if rainB r xs = true then r * sumM xs else 0
def highM (r : Int) (xs : List Int) : Int := if rainB r xs = true then r * sumM xs + r - 1 else 0
def twoLow (a b : Int) (xs ys : List Int) : Int := max (a * sumM xs) (b * sumM ys)
def twoHigh (a b : Int) (xs ys : List Int) : Int := min (a * sumM xs + a) (b * sumM ys + b) - 1
def twoB (a b : Int) (xs ys : List Int) : Bool := rainB a xs && rainB b ys && decide (twoLow a b xs ys ≤ twoHigh a b xs ys)
def twoLowM (a b : Int) (xs ys : List Int) : Int := if twoB a b xs ys = true then twoLow a b xs ys else 0
def twoHighM (a b : Int) (xs ys : List Int) : Int := if twoB a b xs ys = true then twoHigh a b xs ys else 0

/-- Rain made of tips. -/
def mulTo (r : Int) (xs : List Int) (k : Nat) : List Int := (List.range k).map (fun j => xs[j]?.getD 0 * r)
theorem mulTo_length (r : Int) (xs : List Int) (k : Nat) : (mulTo r xs k).length = k := by simp [mulTo]
theorem mulTo_succ (r : Int) (xs : List Int) (k : Nat) : mulTo r xs (k + 1) = mulTo r xs k ++ [xs[k]?.getD 0 * r] := by simp [mulTo, List.range_succ]
theorem mulTo_get (r : Int) (xs : List Int) {k j : Nat} (hj : j < k) : (mulTo r xs k)[j]?.getD 0 = xs[j]?.getD 0 * r := by simp [mulTo, hj]
def madeB (r : Int) (xs : List Int) : Bool := rainB r xs && allB 0 10000 (mulTo r xs xs.length)
def madeM (r : Int) (xs : List Int) : List Int := if madeB r xs = true then mulTo r xs xs.length else []
theorem madeM_small (r : Int) (xs : List Int) : (madeM r xs).length ≤ 1048576 := by
  unfold madeM
  split
  · rename_i h
    unfold madeB at h
    rw [Bool.and_eq_true] at h
    rw [mulTo_length]
    have := (rainB_iff.1 h.1).2.1
    omega
  · simp

/-- The days ahead of the first one on which it tips. -/
def dryN (r : Int) (xs : List Int) : Nat := lead (fun j => decide (sumK xs (j + 1) < r)) xs.length
theorem dry_tips {r : Int} {xs : List Int} (h : RainOk r xs) : lead (fun j => tgK r xs j == 0) xs.length = dryN r xs := by
  unfold dryN
  refine lead_congr fun j hj hi => ?_
  have q : ∀ i, i ≤ j → gaK r xs i = sumK xs i ∧ sumK xs i < r := by
    intro i hi'
    induction i with
    | zero => have := h.1; exact ⟨rfl, by simp [sumK]; omega⟩
    | succ i ih =>
      have e := ih (by omega)
      have q1 := h.2.2 i (by omega)
      have q2 := sumK_bd h i (by omega)
      have n0 : sumK xs (i + 1) < r := by simpa using hi i (by omega)
      have e1 : sumK xs (i + 1) = sumK xs i + xs[i]?.getD 0 := rfl
      refine ⟨?_, n0⟩
      show (gaK r xs i + xs[i]?.getD 0) % r = _
      rw [e.1, ← e1]
      exact Int.emod_eq_of_lt (by omega) n0
  have q0 := q j (Nat.le_refl _)
  have q1 := h.2.2 j hj
  have q2 := sumK_bd h j (by omega)
  have e1 : sumK xs (j + 1) = sumK xs j + xs[j]?.getD 0 := rfl
  have e2 : tgK r xs j = sumK xs (j + 1) / r := by unfold tgK; rw [q0.1, e1]
  show (tgK r xs j == 0) = decide (sumK xs (j + 1) < r)
  rw [e2]
  by_cases hx : sumK xs (j + 1) < r
  · rw [Int.ediv_eq_zero_of_lt (by omega) hx, decide_eq_true hx]; rfl
  · rw [decide_eq_false hx]
    have q3 : 1 ≤ sumK xs (j + 1) / r := by
      rw [Int.le_ediv_iff_mul_le (by have := h.1; omega)]
      omega
    simp
    omega
def firB (r : Int) (xs : List Int) : Bool := rainB r xs && decide (dryN r xs < xs.length)
def firI (r : Int) (xs : List Int) : Int := if firB r xs = true then (dryN r xs : Int) + 1 else 0
theorem firB_false {r : Int} {xs : List Int} (h : rainB r xs = false) : firB r xs = false ∧ firI r xs = 0 := by
  have e : firB r xs = false := by unfold firB; rw [h]; rfl
  exact ⟨e, by unfold firI; rw [if_neg (by rw [e]; decide)]⟩
theorem fir_at {r : Int} {xs : List Int} (h : rainB r xs = true) {k : Nat} (hk : k < xs.length) (e : dryN r xs = k) : firB r xs = true ∧ firI r xs = (k : Int) + 1 := by
  have q : firB r xs = true := by unfold firB; rw [h, e, decide_eq_true hk]; rfl
  exact ⟨q, by unfold firI; rw [if_pos q, e]⟩
theorem fir_none {r : Int} {xs : List Int} (e : dryN r xs = xs.length) : firB r xs = false ∧ firI r xs = 0 := by
  have q : firB r xs = false := by unfold firB; rw [e, decide_eq_false (by omega)]; simp
  exact ⟨q, by unfold firI; rw [if_neg (by rw [q]; decide)]⟩
end Go.Proofs.Ytaonebglbcgghaa
