/- Lists of numbers within bounds; the laws' helpers on them, in one form. -/
import Derived.Test.YtfhpmihjfojbnaaHelp
namespace Go.Proofs.Ytfhpmihjfojbnaa
open Go.RowKit

def allB (lo hi : Int) (l : List Int) : Bool := l.all (inB lo hi)
theorem allB_iff {lo hi : Int} {l : List Int} : allB lo hi l = true ↔ ∀ j, j < l.length → lo ≤ l[j]?.getD 0 ∧ l[j]?.getD 0 ≤ hi := by
  unfold allB
  rw [List.all_eq_true]
  constructor
  · intro h j hj
    have := h l[j] (List.getElem_mem hj)
    rw [inB_iff] at this
    simpa [List.getElem?_eq_getElem hj] using this
  · intro h x hx
    obtain ⟨j, hj, rfl⟩ := List.getElem_of_mem hx
    rw [inB_iff]
    simpa [List.getElem?_eq_getElem hj] using h j hj
end Go.Proofs.Ytfhpmihjfojbnaa
