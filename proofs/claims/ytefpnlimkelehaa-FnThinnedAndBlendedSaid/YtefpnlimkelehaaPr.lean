/- Boxes of two cells: what they hold, and what they hold behind stores, calls and new blocks. Nothing here speaks of the program. -/
import Derived.Test.YtefpnlimkelehaaBase
namespace Go.Proofs.Ytefpnlimkelehaa
open Go.RowKit

/-- A box of two cells that hold x and y and may be written. -/
def Pr (w : World) (B : Nat) (x y : Value) : Prop :=
  w.cell? ⟨B, 0, none⟩ = some x ∧ w.cell? ⟨B, 1, none⟩ = some y ∧ w.frozen? ⟨B, 0, none⟩ = false ∧ w.frozen? ⟨B, 1, none⟩ = false
theorem Pr.new {w w' : World} {B : Nat} {x y : Value} (h : Pr w B x y) (n : New w w') : Pr w' B x y :=
  ⟨n.cell h.1, n.cell h.2.1, n.frz h.1 h.2.2.1, n.frz h.2.1 h.2.2.2⟩
theorem Pr.lt {w : World} {B : Nat} {x y : Value} (h : Pr w B x y) : B < w.heap.size := World.block_lt_of_cell? _ _ h.1
theorem Pr.put {w : World} {B : Nat} {a b : Value} (h : Pr w B a b) (x y : Value) : Pr ((w.setCell ⟨B, 0, none⟩ x).setCell ⟨B, 1, none⟩ y) B x y :=
  ⟨by rw [set_other (by simp)]; exact set_same h.1, by refine set_same (u := b) ?_; rw [set_other (by simp)]; exact h.2.1,
    ((World.frozen?_setCell _ _ _ _).trans (World.frozen?_setCell _ _ _ _)).trans h.2.2.1, ((World.frozen?_setCell _ _ _ _).trans (World.frozen?_setCell _ _ _ _)).trans h.2.2.2⟩
theorem Pr.other {w : World} {B C : Nat} {a b : Value} (h : Pr w C a b) (hn : C ≠ B) (i : Nat) (x : Value) : Pr (w.setCell ⟨B, i, none⟩ x) C a b :=
  ⟨World.cell_set h.1 hn, World.cell_set h.2.1 hn, (World.frozen?_setCell _ _ _ _).trans h.2.2.1, (World.frozen?_setCell _ _ _ _).trans h.2.2.2⟩
theorem Pr.apart {w : World} {B C : Nat} {a b : Value} (h : Pr w C a b) (hn : C ≠ B) (x y : Value) : Pr ((w.setCell ⟨B, 0, none⟩ x).setCell ⟨B, 1, none⟩ y) C a b :=
  (h.other hn 0 x).other hn 1 y
theorem Pr.fresh (w : World) (x y : Value) (t : TypeId) : Pr (w.alloc (.cells #[x, y] t)) w.heap.size x y := ⟨by simp, by simp, by simp, by simp⟩
theorem Pr.alloc {w : World} {B : Nat} {x y : Value} (h : Pr w B x y) (o : Obj) : Pr (w.alloc o) B x y := h.new ((New.refl w).alloc o)
theorem Pr.drew {w : World} {B : Nat} {x y : Value} (h : Pr w B x y) : Pr w.drew B x y := h.new ((New.refl w).drew)
end Go.Proofs.Ytefpnlimkelehaa
