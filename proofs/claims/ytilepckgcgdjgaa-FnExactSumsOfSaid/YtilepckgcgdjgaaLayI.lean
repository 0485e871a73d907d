/- How many need plans of so many moves, the program's and the model's. -/
import Derived.Test.YtilepckgcgdjgaaCountI
import Derived.Test.YtilepckgcgdjgaaMono
import Derived.Deep.QuietTactic
import Derived.BigQuiet
namespace Go.Proofs.Ytilepckgcgdjgaa
open Go.RowKit Go.Maps

def layM (S H : List Int) (cl : Bool) : List Int × Bool := if countB S H cl = true then (layN (endN S H cl 3000), true) else ([], false)
theorem layM_yes {S H : List Int} {cl : Bool} (h : countB S H cl = true) : layM S H cl = (layN (endN S H cl 3000), true) := by simp [layM, h]
theorem layM_no {S H : List Int} {cl : Bool} (h : countB S H cl = false) : layM S H cl = ([], false) := by simp [layM, h]
theorem few_len {S H : List Int} {cl : Bool} {most : Nat} (h : fewB S H cl most = true) : (endN S H cl most).length ≤ most := of_decide_eq_true h
theorem goodfew {S H : List Int} {cl : Bool} {most : Nat} (h : (goodB S H && fewB S H cl most) = true) : Good S H ∧ (endN S H cl most).length ≤ most := by
  rw [Bool.and_eq_true] at h
  exact ⟨goodB_iff.1 h.1, few_len h.2⟩
theorem countB_good {S H : List Int} {cl : Bool} (h : countB S H cl = true) : Good S H ∧ (endN S H cl 3000).length ≤ 3000 := goodfew (most := 3000) h
theorem endN_found {S H : List Int} (cl : Bool) (most : Nat) (hg : Good S H) : Found S H (endN S H cl most) := found_seq cl hg (most + 1)
theorem layN_len {S H : List Int} {cl : Bool} {most : Nat} (h : (goodB S H && fewB S H cl most) = true) : (layN (endN S H cl most)).length ≤ most + 1 := by
  obtain ⟨hg, hl⟩ := goodfew h
  have hf := endN_found cl most hg
  rw [layN_length]
  have := hf.far_le ((endN S H cl most).length - 1) (by have := hf.pos; omega)
  unfold lastFar farAt
  omega
theorem layP_small {ok : Bool} {l : List Int} {n : Nat} (h : ok = true → l.length ≤ n) : (if ok = true then (l, true) else (([] : List Int), false)).1.length ≤ n := by
  cases ok
  · simp
  · simpa using h rfl
theorem layM_small (S H : List Int) (cl : Bool) : (layM S H cl).1.length ≤ 1048576 := Nat.le_trans (layP_small (ok := countB S H cl) (n := 3000 + 1) fun h => layN_len (most := 3000) h) (by omega)
/-- A slice of numbers of the call's own, and a bool. -/
def RetI (w : World) (l : List Int) (ok : Bool) (e : Ending) (w' : World) : Prop :=
  ∃ sa n sc, e = .returned (.tuple #[.slice sa n sc, .bool ok]) ∧ Own w' w.heap.size w'.heap.size sa n sc l ∧ New w w'

theorem zeros_own (w : World) (n : Nat) (hn : n ≤ 9223372036854775807) : Own (w.alloc (.cells (List.replicate n (Value.int .i64 0)).toArray 3)) w.heap.size (w.heap.size + 1) (some ⟨w.heap.size, 0, none⟩) n n (List.replicate n 0) :=
  ⟨by simp, Nat.le_refl _, hn, .inr ⟨w.heap.size, fun j => .int .i64 ((List.replicate n (0 : Int))[j]?.getD 0), rfl, Nat.le_refl _, by omega, ⟨_, heap_alloc_new _ _, by simp, fun i hi => by simp [hi]⟩, fun j _ => rfl⟩⟩
end Go.Proofs.Ytilepckgcgdjgaa
