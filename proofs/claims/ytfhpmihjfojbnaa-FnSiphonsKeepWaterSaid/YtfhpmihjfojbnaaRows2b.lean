/- Two rows that grow side by side, their slices in variables; a box of two cells beside them. Nothing here speaks of the program. -/
import Derived.Test.YtfhpmihjfojbnaaRows2
namespace Go.Proofs.Ytfhpmihjfojbnaa
open Go.RowKit

theorem New.grown {w0 w w' : World} {base : Nat} {e : TypeId} {size n : Nat} {v : Value} {xs : List Value} (h : New w0 w) (ho : w.ownsRow base e size v n xs) (hb : w0.heap.size ≤ base) (hg : w.grownBy w' v.ownBlock) : New w0 w' :=
  Below.trans h ⟨hg.os, hg.tape, hg.output, hg.size, fun k hk => hg.block k (by have := h.size; omega) (fun e => by have := (ho.lt k e.symm).1; omega)⟩
theorem rows_beside {w w' : World} {base : Nat} {f : TypeId} {size2 m : Nat} {u v : Value} {ys : List Value} (k : w.ownsRow base f size2 u m ys) (ha : ∀ g, u.ownBlock = some g → v.ownBlock ≠ some g) (hg : w.grownBy w' v.ownBlock) : w'.ownsRow base f size2 u m ys :=
  ownsRow_block k fun g e => hg.block g (k.lt g e).2 (fun e' => ha g e e'.symm)
theorem rows_apart {w : World} {base : Nat} {f : TypeId} {size2 m g n' cap : Nat} {u v : Value} {ys : List Value} (k : w.ownsRow base f size2 u m ys) (ha : ∀ g, u.ownBlock = some g → v.ownBlock ≠ some g) (hg : v.ownBlock = some g ∨ g = w.heap.size) :
    ∀ g', u.ownBlock = some g' → (Value.slice (some ⟨g, 0, none⟩) n' cap).ownBlock ≠ some g' := by
  intro g' e e'
  simp [Value.ownBlock] at e'
  subst e'
  rcases hg with hg | hg
  · exact ha g e hg
  · have := (k.lt g e).2
    omega
theorem ownsRow_lit2 (w : World) (x y : Value) {base B : Nat} {e : TypeId} (hB : w.heap.size = B) (hb : base ≤ B) : (w.alloc (.cells #[x, y] e)).ownsRow base e 2 (.slice (some ⟨B, 0, none⟩) 1 1) 1 [x, y] := by
  subst hB
  exact ⟨rfl, .inr ⟨w.heap.size, 1, #[x, y], rfl, hb, heap_alloc_new w _, Nat.le_refl _, by unfold maxLen; omega, rfl, rfl⟩⟩
theorem heap_alloc_at {w : World} {o : Obj} {B : Nat} (hB : w.heap.size = B) : (w.alloc o).heap[B]? = some o := by subst hB; exact heap_alloc_new w o
theorem grown_cell {w w' : World} {base : Nat} {e : TypeId} {size n : Nat} {v x : Value} {xs : List Value} {p : Addr} (ho : w.ownsRow base e size v n xs) (hg : w.grownBy w' v.ownBlock) (hp : p.block < base) (hc : w.cell? p = some x) : w'.cell? p = some x :=
  hg.cell hc (fun e => by have := (ho.lt _ e.symm).1; omega)
theorem grown_frozen {w w' : World} {base : Nat} {e : TypeId} {size n : Nat} {v : Value} {xs : List Value} {p : Addr} (ho : w.ownsRow base e size v n xs) (hg : w.grownBy w' v.ownBlock) (hp : p.block < base) (hlt : p.block < w.heap.size) (hf : w.frozen? p = false) : w'.frozen? p = false :=
  (hg.frozen_far p hlt (fun e => by have := (ho.lt _ e.symm).1; omega)).trans hf

/-- Rows of elements of one and of two cells, and a box of two cells below them; what lies below the box is as it was. -/
structure RunR (w0 wr : World) (B base : Nat) (e1 e2 : TypeId) (x y : Value) (vo : Value) (n : Nat) (lo : List Value) (vl : Value) (m : Nat) (ll : List Value) : Prop where
  new : Below B w0 wr
  lt : B < base
  c0 : wr.cell? ⟨B, 0, none⟩ = some x
  c1 : wr.cell? ⟨B, 1, none⟩ = some y
  f0 : wr.frozen? ⟨B, 0, none⟩ = false
  f1 : wr.frozen? ⟨B, 1, none⟩ = false
  outs : wr.ownsRow base e1 1 vo n lo
  levs : wr.ownsRow base e2 2 vl m ll
  apart : ∀ g, vl.ownBlock = some g → vo.ownBlock ≠ some g
theorem RunR.bsize {w0 wr : World} {B base n m : Nat} {e1 e2 : TypeId} {x y vo vl : Value} {lo ll : List Value} (h : RunR w0 wr B base e1 e2 x y vo n lo vl m ll) : B < wr.heap.size := World.block_lt_of_cell? _ _ h.c0
theorem RunR.old {w0 wr : World} {B base n m : Nat} {e1 e2 : TypeId} {x y vo vl : Value} {lo ll : List Value} (h : RunR w0 wr B base e1 e2 x y vo n lo vl m ll) {p : Addr} {v : Value} (hc : w0.cell? p = some v) (hp : p.block < B) : wr.cell? p = some v :=
  (Below.cell h.new hp).trans hc
theorem RunR.since {w w0 wr : World} {B base n m : Nat} {e1 e2 : TypeId} {x y vo vl : Value} {lo ll : List Value} (h : RunR w0 wr B base e1 e2 x y vo n lo vl m ll) (k : New w w0) (hB : w.heap.size ≤ B) : New w wr :=
  Below.trans k (Below.mono h.new hB)
theorem RunR.kept {w0 wr w' : World} {B base n m : Nat} {e1 e2 : TypeId} {x y vo vl : Value} {lo ll : List Value} (h : RunR w0 wr B base e1 e2 x y vo n lo vl m ll) (k : New wr w') : RunR w0 w' B base e1 e2 x y vo n lo vl m ll :=
  { h with new := h.new.trans (Below.mono k (Nat.le_of_lt h.bsize)), c0 := k.cell h.c0, c1 := k.cell h.c1, f0 := k.frz h.c0 h.f0, f1 := k.frz h.c1 h.f1, outs := ownsRow_new h.outs k, levs := ownsRow_new h.levs k }
theorem RunR.put {w0 wr : World} {B base n m : Nat} {e1 e2 : TypeId} {x y vo vl : Value} {lo ll : List Value} (h : RunR w0 wr B base e1 e2 x y vo n lo vl m ll) (x' y' : Value) :
    RunR w0 ((wr.setCell ⟨B, 0, none⟩ x').setCell ⟨B, 1, none⟩ y') B base e1 e2 x' y' vo n lo vl m ll :=
  { h with
    new := (h.new.setCell (Nat.le_refl _) _).setCell (Nat.le_refl _) _
    c0 := by rw [set_other (by simp)]; exact set_same h.c0
    c1 := by refine set_same (u := y) ?_; rw [set_other (by simp)]; exact h.c1
    f0 := by rw [World.frozen?_setCell, World.frozen?_setCell]; exact h.f0
    f1 := by rw [World.frozen?_setCell, World.frozen?_setCell]; exact h.f1
    outs := ownsRow_block h.outs fun g e => by
      have := (h.outs.lt g e).1
      have := h.lt
      rw [Below.heap_setCell _ _ _ _ (fun e' => by simp at e'; omega), Below.heap_setCell _ _ _ _ (fun e' => by simp at e'; omega)]
    levs := ownsRow_block h.levs fun g e => by
      have := (h.levs.lt g e).1
      have := h.lt
      rw [Below.heap_setCell _ _ _ _ (fun e' => by simp at e'; omega), Below.heap_setCell _ _ _ _ (fun e' => by simp at e'; omega)] }
theorem Below.grown {w0 w w' : World} {B base : Nat} {e : TypeId} {size n : Nat} {v : Value} {xs : List Value} (h : Below B w0 w) (hB : B ≤ w.heap.size) (ho : w.ownsRow base e size v n xs) (hb : B ≤ base) (hg : w.grownBy w' v.ownBlock) : Below B w0 w' :=
  Below.trans h ⟨hg.os, hg.tape, hg.output, hg.size, fun k hk => hg.block k (by omega) (fun e => by have := (ho.lt k e.symm).1; omega)⟩
theorem RunR.growO {w0 wr w' : World} {B base n m n' cap g : Nat} {e1 e2 : TypeId} {x y vo vl : Value} {lo ll lo' : List Value} (h : RunR w0 wr B base e1 e2 x y vo n lo vl m ll)
    (ho : w'.ownsRow base e1 1 (.slice (some ⟨g, 0, none⟩) n' cap) n' lo') (hg : wr.grownBy w' vo.ownBlock) (hb : vo.ownBlock = some g ∨ g = wr.heap.size) : RunR w0 w' B base e1 e2 x y (.slice (some ⟨g, 0, none⟩) n' cap) n' lo' vl m ll :=
  { h with
    new := Below.grown h.new (Nat.le_of_lt h.bsize) h.outs (Nat.le_of_lt h.lt) hg
    c0 := grown_cell h.outs hg h.lt h.c0
    c1 := grown_cell h.outs hg h.lt h.c1
    f0 := grown_frozen h.outs hg h.lt h.bsize h.f0
    f1 := grown_frozen h.outs hg h.lt h.bsize h.f1
    outs := ho
    levs := rows_beside h.levs h.apart hg
    apart := rows_apart h.levs h.apart hb }
theorem RunR.growL {w0 wr w' : World} {B base n m m' cap g : Nat} {e1 e2 : TypeId} {x y vo vl : Value} {lo ll ll' : List Value} (h : RunR w0 wr B base e1 e2 x y vo n lo vl m ll)
    (ho : w'.ownsRow base e2 2 (.slice (some ⟨g, 0, none⟩) m' cap) m' ll') (hg : wr.grownBy w' vl.ownBlock) (hb : vl.ownBlock = some g ∨ g = wr.heap.size) : RunR w0 w' B base e1 e2 x y vo n lo (.slice (some ⟨g, 0, none⟩) m' cap) m' ll' :=
  have ap : ∀ g, vo.ownBlock = some g → vl.ownBlock ≠ some g := fun g e e' => h.apart g e' e
  { h with
    new := Below.grown h.new (Nat.le_of_lt h.bsize) h.levs (Nat.le_of_lt h.lt) hg
    c0 := grown_cell h.levs hg h.lt h.c0
    c1 := grown_cell h.levs hg h.lt h.c1
    f0 := grown_frozen h.levs hg h.lt h.bsize h.f0
    f1 := grown_frozen h.levs hg h.lt h.bsize h.f1
    outs := rows_beside h.outs ap hg
    levs := ho
    apart := fun q e e' => rows_apart h.outs ap hb q e' e }
end Go.Proofs.Ytfhpmihjfojbnaa
