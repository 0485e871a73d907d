/- A siphon through many ticks, on numbers. -/
import Derived.Test.YtfhpmihjfojbnaaSip
import Derived.Test.YtfhpmihjfojbnaaAll
import Derived.Test.YtfhpmihjfojbnaaRowLevel
namespace Go.Proofs.Ytfhpmihjfojbnaa
open Go.RowKit

/-- The level behind k ticks. -/
def stK (a b c d u : Int) (r : Bool) (xs : List Int) : Nat → Int × Bool
  | 0 => (u, r)
  | k + 1 => (tkH a b c d (stK a b c d u r xs k).1 (xs[k]?.getD 0) (stK a b c d u r xs k).2, tkR a b c d (stK a b c d u r xs k).1 (xs[k]?.getD 0) (stK a b c d u r xs k).2)
def outK (a b c d u : Int) (r : Bool) (xs : List Int) (k : Nat) : Int := tkO a b c d (stK a b c d u r xs k).1 (xs[k]?.getD 0) (stK a b c d u r xs k).2
def spK (a b c d u : Int) (r : Bool) (xs : List Int) : Nat → Int
  | 0 => 0
  | k + 1 => spK a b c d u r xs k + tkS a (stK a b c d u r xs k).1 (xs[k]?.getD 0)
def outsTo (a b c d u : Int) (r : Bool) (xs : List Int) (k : Nat) : List Int := (List.range k).map (outK a b c d u r xs)
def levsTo (a b c d u : Int) (r : Bool) (xs : List Int) (k : Nat) : List (Int × Bool) := (List.range (k + 1)).map (stK a b c d u r xs)
theorem outsTo_length (a b c d u : Int) (r : Bool) (xs : List Int) (k : Nat) : (outsTo a b c d u r xs k).length = k := by simp [outsTo]
theorem levsTo_length (a b c d u : Int) (r : Bool) (xs : List Int) (k : Nat) : (levsTo a b c d u r xs k).length = k + 1 := by simp [levsTo]
theorem outsTo_succ (a b c d u : Int) (r : Bool) (xs : List Int) (k : Nat) : outsTo a b c d u r xs (k + 1) = outsTo a b c d u r xs k ++ [outK a b c d u r xs k] := by simp [outsTo, List.range_succ]
theorem levsTo_zero (a b c d u : Int) (r : Bool) (xs : List Int) : levsTo a b c d u r xs 0 = [(u, r)] := rfl
theorem levsTo_succ (a b c d u : Int) (r : Bool) (xs : List Int) (k : Nat) : levsTo a b c d u r xs (k + 1) = levsTo a b c d u r xs k ++ [stK a b c d u r xs (k + 1)] := by
  unfold levsTo
  rw [List.range_succ, List.map_append]
  rfl
theorem stK_bd {a b c d u : Int} {r : Bool} {xs : List Int} (hs : SipOk a b c d) (h0 : 0 ≤ u) (h1 : u ≤ a) (hx : ∀ j, j < xs.length → 0 ≤ xs[j]?.getD 0 ∧ xs[j]?.getD 0 ≤ 60) (k : Nat) (hk : k ≤ xs.length) :
    0 ≤ (stK a b c d u r xs k).1 ∧ (stK a b c d u r xs k).1 ≤ a := by
  induction k with
  | zero => exact ⟨h0, h1⟩
  | succ k ih =>
    have := ih (by omega)
    exact tkH_bd a b c d _ _ _ hs this.1 (hx k (by omega)).1
theorem spK_bd {a b c d u : Int} {r : Bool} {xs : List Int} (hs : SipOk a b c d) (h0 : 0 ≤ u) (h1 : u ≤ a) (hx : ∀ j, j < xs.length → 0 ≤ xs[j]?.getD 0 ∧ xs[j]?.getD 0 ≤ 60) (k : Nat) (hk : k ≤ xs.length) :
    0 ≤ spK a b c d u r xs k ∧ spK a b c d u r xs k ≤ 60 * k := by
  induction k with
  | zero => exact ⟨by simp [spK], by simp [spK]⟩
  | succ k ih =>
    have q := ih (by omega)
    have q1 := stK_bd (r := r) hs h0 h1 hx k (by omega)
    have q2 := tkS_bd a (stK a b c d u r xs k).1 (xs[k]?.getD 0) q1.2 (hx k (by omega)).2
    unfold spK
    omega
theorem outK_bd {a b c d u : Int} {r : Bool} {xs : List Int} (hs : SipOk a b c d) (h0 : 0 ≤ u) (h1 : u ≤ a) (hx : ∀ j, j < xs.length → 0 ≤ xs[j]?.getD 0 ∧ xs[j]?.getD 0 ≤ 60) (k : Nat) (hk : k < xs.length) :
    0 ≤ outK a b c d u r xs k ∧ outK a b c d u r xs k ≤ 60 := by
  have q1 := stK_bd (r := r) hs h0 h1 hx k (by omega)
  have q := tkO_bd a b c d (stK a b c d u r xs k).1 (xs[k]?.getD 0) (stK a b c d u r xs k).2 hs q1.1 (hx k hk).1
  exact ⟨q.1, q.2.1⟩
theorem outsTo_in {a b c d u : Int} {r : Bool} {xs : List Int} (hs : SipOk a b c d) (h0 : 0 ≤ u) (h1 : u ≤ a) (hx : ∀ j, j < xs.length → 0 ≤ xs[j]?.getD 0 ∧ xs[j]?.getD 0 ≤ 60) :
    ∀ j, j < (outsTo a b c d u r xs xs.length).length → 0 ≤ (outsTo a b c d u r xs xs.length)[j]?.getD 0 ∧ (outsTo a b c d u r xs xs.length)[j]?.getD 0 ≤ 60 := by
  intro j hj
  rw [outsTo_length] at hj
  have e : (outsTo a b c d u r xs xs.length)[j]?.getD 0 = outK a b c d u r xs j := by simp [outsTo, hj]
  rw [e]
  exact outK_bd hs h0 h1 hx j hj

def infB (xs : List Int) : Bool := decide (xs.length ≤ 100) && allB 0 60 xs
theorem infB_iff {xs : List Int} : infB xs = true ↔ xs.length ≤ 100 ∧ ∀ j, j < xs.length → 0 ≤ xs[j]?.getD 0 ∧ xs[j]?.getD 0 ≤ 60 := by
  unfold infB; rw [Bool.and_eq_true, decide_eq_true_eq, allB_iff]
def runB (a b c d u : Int) (xs : List Int) : Bool := levB a b c d u && infB xs
theorem runB_iff {a b c d u : Int} {xs : List Int} : runB a b c d u xs = true ↔ (SipOk a b c d ∧ 0 ≤ u ∧ u ≤ a) ∧ xs.length ≤ 100 ∧ ∀ j, j < xs.length → 0 ≤ xs[j]?.getD 0 ∧ xs[j]?.getD 0 ≤ 60 := by
  unfold runB; rw [Bool.and_eq_true, levB_iff, infB_iff]
def outsM (a b c d u : Int) (r : Bool) (xs : List Int) : List Int := if runB a b c d u xs = true then outsTo a b c d u r xs xs.length else []
def levsM (a b c d u : Int) (r : Bool) (xs : List Int) : List (Int × Bool) := if runB a b c d u xs = true then levsTo a b c d u r xs xs.length else []
def spM (a b c d u : Int) (r : Bool) (xs : List Int) : Int := if runB a b c d u xs = true then spK a b c d u r xs xs.length else 0
theorem outsM_small (a b c d u : Int) (r : Bool) (xs : List Int) : (outsM a b c d u r xs).length ≤ 1048576 := by
  unfold outsM
  split
  · rename_i h
    rw [outsTo_length]
    have := (runB_iff.1 h).2.1
    omega
  · simp
theorem levsM_small (a b c d u : Int) (r : Bool) (xs : List Int) : (levsM a b c d u r xs).length ≤ 1048576 := by
  unfold levsM
  split
  · rename_i h
    rw [levsTo_length]
    have := (runB_iff.1 h).2.1
    omega
  · simp
end Go.Proofs.Ytfhpmihjfojbnaa
