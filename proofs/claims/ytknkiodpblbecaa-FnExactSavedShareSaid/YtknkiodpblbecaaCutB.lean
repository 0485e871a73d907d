/- A box of two cells made within a statement whose order is drawn. Nothing here speaks of the program. -/
import Derived.Test.YtknkiodpblbecaaBase
import Derived.Deep.RegionHeld3
import Derived.Deep.DeepCutAuto
namespace Go.Proofs.Ytknkiodpblbecaa
open Go.RowKit

/-- p is a box of x and y, made since W0. -/
def CutBox (W0 : World) (x y p : Value) (W : World) : Prop :=
  ∃ B, p = .pointer (some ⟨B, 0, none⟩) ∧ New W0 W ∧ W0.heap.size ≤ B ∧ B < W.heap.size ∧ W.cell? ⟨B, 0, none⟩ = some x ∧ W.cell? ⟨B, 1, none⟩ = some y
theorem CutBox.behind {W0 W : World} {x y : Value} {t : TypeId} (h : New W0 W) : CutBox W0 x y (.pointer (some ⟨W.heap.size, 0, none⟩)) (W.alloc (.cells #[x, y] t)) :=
  ⟨_, rfl, h.alloc _, h.size, by simp, by simp, by simp⟩
theorem CutBox.put {W0 W : World} {x y a b : Value} {B : Nat} (h : New W0 W) (hB : W0.heap.size ≤ B) (hB' : B < W.heap.size) (k0 : W.cell? ⟨B, 0, none⟩ = some a) (k1 : W.cell? ⟨B, 1, none⟩ = some b) :
    CutBox W0 x y (.pointer (some ⟨B, 0, none⟩)) ((W.setCell ⟨B, 0, none⟩ x).setCell ⟨B, 1, none⟩ y) :=
  ⟨_, rfl, (h.setCell hB _).setCell hB _, hB, by simpa using hB', by rw [set_other (by simp)]; exact set_same k0, by refine set_same (u := b) ?_; rw [set_other (by simp)]; exact k1⟩
end Go.Proofs.Ytknkiodpblbecaa
