/- The model's functions of chapter 1: amounts, moves, copies. -/
import Derived.Test.YthnhckccmfjcmaaSpec1
import Derived.Laws.AppendOwnNone
namespace Go.Proofs.Ythnhckccmfjcmaa
open Go.RowKit

theorem sumOf_le (l : List Int) (h : ∀ j, j < l.length → 0 ≤ l[j]?.getD 0 ∧ l[j]?.getD 0 ≤ 60) (k : Nat) (hk : k ≤ l.length) : 0 ≤ sumOf (l.take k) ∧ sumOf (l.take k) ≤ 60 * k := by
  induction k with
  | zero => simp [sumOf]
  | succ k ih =>
    have e : l.take (k + 1) = l.take k ++ [l[k]?.getD 0] := by
      rw [List.take_add_one]
      simp [List.getElem?_eq_getElem (show k < l.length by omega)]
    have := ih (by omega)
    have := h k (by omega)
    rw [e]
    simp only [sumOf, List.foldl_append, List.foldl_cons, List.foldl_nil] at *
    omega
theorem sumOf_snoc (l : List Int) (k : Nat) (hk : k < l.length) : sumOf (l.take (k + 1)) = sumOf (l.take k) + l[k]?.getD 0 := by
  have e : l.take (k + 1) = l.take k ++ [l[k]?.getD 0] := by
    rw [List.take_add_one]
    simp [List.getElem?_eq_getElem hk]
  rw [e]
  simp [sumOf]
end Go.Proofs.Ythnhckccmfjcmaa
