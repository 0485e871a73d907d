/- One filling laid into a new row. -/
import Derived.Test.YtfhpmihjfojbnaaSkm
import Derived.Test.YtfhpmihjfojbnaaDrl
namespace Go.Proofs.Ytfhpmihjfojbnaa
open Go.RowKit

theorem fill_cell' (w : World) (t : TypeId) (n j : Nat) (hj : j < n) : (w.alloc (.cells (madeCells #[.int .i64 0] (n * 1)) t)).cell? ⟨w.heap.size, j, none⟩ = some (.int .i64 0) := by
  rw [Nat.mul_one, madeCells_eq]
  simp [hj]
theorem fill_cell (w : World) (t : TypeId) (j : Nat) (hj : j < 61) : (w.alloc (.cells (madeCells #[.int .i64 0] (61 * 1)) t)).cell? ⟨w.heap.size, j, none⟩ = some (.int .i64 0) := fill_cell' w t 61 j hj
theorem fill_ints (w : World) (c : Int) (t : TypeId) : Ints ((w.alloc (.cells (madeCells #[.int .i64 0] (61 * 1)) t)).setCell ⟨w.heap.size, 0, none⟩ (.int .i64 c)) (some ⟨w.heap.size, 0, none⟩) 61 61 (fillX c) := by
  refine ⟨(fillX_length c).symm, Nat.le_refl _, by omega, fun j hj => ⟨w.heap.size, 0, rfl, ?_⟩, fun e => by cases e⟩
  rw [Nat.zero_add]
  by_cases e : j = 0
  · subst e
    rw [fillX_zero]
    exact set_same (fill_cell w t 0 (by omega))
  · rw [fillX_get _ (by omega), set_other (by first | (simp; done) | (simp; omega) | simpa using e)]
    exact fill_cell w t j hj
end Go.Proofs.Ytfhpmihjfojbnaa
