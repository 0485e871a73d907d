/- Two rows that grow side by side, their slices in a box of two cells. Nothing here speaks of the program. -/
import Derived.Test.YtfhpmihjfojbnaaBase
import Derived.Deep.AppendLies
import Derived.Deep.RegionLaw
namespace Go.Proofs.Ytfhpmihjfojbnaa
open Go.RowKit

theorem ownsRow_new {w w' : World} {base : Nat} {e : TypeId} {size n : Nat} {v : Value} {xs : List Value} (h : w.ownsRow base e size v n xs) (k : New w w') : w'.ownsRow base e size v n xs := by
  obtain ⟨hl, h⟩ := h
  refine ⟨hl, h.imp id ?_⟩
  rintro ⟨g, cap, cur, e1, hb, hh, r⟩
  exact ⟨g, cap, cur, e1, hb, (k.block g (Array.getElem?_eq_some_iff.1 hh).1).trans hh, r⟩
theorem ownsRow_block {w w' : World} {base : Nat} {e : TypeId} {size n : Nat} {v : Value} {xs : List Value} (h : w.ownsRow base e size v n xs) (k : ∀ g, v.ownBlock = some g → w'.heap[g]? = w.heap[g]?) : w'.ownsRow base e size v n xs := by
  obtain ⟨hl, h⟩ := h
  refine ⟨hl, h.imp id ?_⟩
  rintro ⟨g, cap, cur, rfl, hb, hh, r⟩
  exact ⟨g, cap, cur, rfl, hb, (k g rfl).trans hh, r⟩

/-- A slice in a cell of the box B, its row behind the box. -/
structure RowAt (B : Nat) (w : World) (o : Nat) (e : TypeId) (size : Nat) (v : Value) (n : Nat) (xs : List Value) : Prop where
  cell : w.cell? ⟨B, o, none⟩ = some v
  warm : w.frozen? ⟨B, o, none⟩ = false
  own : w.ownsRow (B + 1) e size v n xs

theorem RowAt.new {B : Nat} {w w' : World} {o : Nat} {e : TypeId} {size n : Nat} {v : Value} {xs : List Value} (h : RowAt B w o e size v n xs) (k : New w w') : RowAt B w' o e size v n xs :=
  ⟨k.cell h.cell, k.frz h.cell h.warm, ownsRow_new h.own k⟩
theorem RowAt.lt {B : Nat} {w : World} {o : Nat} {e : TypeId} {size n : Nat} {v : Value} {xs : List Value} (h : RowAt B w o e size v n xs) : B < w.heap.size := World.block_lt_of_cell? _ _ h.cell

/-- The box's cells stand when the row grows. -/
theorem RowAt.keep {B : Nat} {w w' : World} {o p : Nat} {e : TypeId} {size n : Nat} {v x : Value} {xs : List Value} (h : RowAt B w o e size v n xs) (hg : w.grownBy w' v.ownBlock) (hc : w.cell? ⟨B, p, none⟩ = some x) (hf : w.frozen? ⟨B, p, none⟩ = false) :
    w'.cell? ⟨B, p, none⟩ = some x ∧ w'.frozen? ⟨B, p, none⟩ = false := by
  have hb : some B ≠ v.ownBlock := fun e => by have := (h.own.lt B e.symm).1; omega
  exact ⟨hg.cell hc hb, (hg.frozen_far ⟨B, p, none⟩ h.lt hb).trans hf⟩
/-- The row has grown, and its slice has been laid back into its cell. -/
theorem RowAt.grown {B : Nat} {w w' : World} {o : Nat} {e : TypeId} {size n n' : Nat} {v v' : Value} {xs xs' : List Value} (h : RowAt B w o e size v n xs) (hg : w.grownBy w' v.ownBlock) (ho : w'.ownsRow (B + 1) e size v' n' xs') :
    RowAt B (w'.setCell ⟨B, o, none⟩ v') o e size v' n' xs' := by
  have hb : some B ≠ v.ownBlock := fun e => by have := (h.own.lt B e.symm).1; omega
  have hc : w'.cell? ⟨B, o, none⟩ = some v := hg.cell h.cell hb
  refine ⟨set_same hc, ?_, ?_⟩
  · rw [World.frozen?_setCell]
    exact (hg.frozen_far ⟨B, o, none⟩ h.lt hb).trans h.warm
  · exact ownsRow_block ho fun g e => Below.heap_setCell _ _ _ _ (fun e' => by have := (ho.lt g e).1; simp at e'; omega)
/-- The other one stands. -/
theorem RowAt.beside {B : Nat} {w w' : World} {o p : Nat} {e f : TypeId} {size size2 n m n' : Nat} {v u v' : Value} {xs ys xs' : List Value} (h : RowAt B w o e size v n xs) (k : RowAt B w p f size2 u m ys) (hop : o ≠ p) (ha : ∀ g, u.ownBlock = some g → v.ownBlock ≠ some g)
    (hg : w.grownBy w' v.ownBlock) (_ho : w'.ownsRow (B + 1) e size v' n' xs') : RowAt B (w'.setCell ⟨B, o, none⟩ v') p f size2 u m ys := by
  have hb : some B ≠ v.ownBlock := fun e => by have := (h.own.lt B e.symm).1; omega
  refine ⟨?_, ?_, ?_⟩
  · rw [set_other (fun e' => hop (by cases e'; rfl))]
    exact hg.cell k.cell hb
  · rw [World.frozen?_setCell]
    exact (hg.frozen_far ⟨B, p, none⟩ k.lt hb).trans k.warm
  · refine ownsRow_block k.own fun g e => ?_
    have := k.own.lt g e
    rw [Below.heap_setCell _ _ _ _ (fun e' => by simp at e'; omega)]
    exact hg.block g this.2 (fun e' => ha g e e'.symm)
theorem RowAt.apart {B : Nat} {w : World} {p : Nat} {f : TypeId} {size2 m g n' cap : Nat} {u v : Value} {ys : List Value} (k : RowAt B w p f size2 u m ys) (ha : ∀ g, u.ownBlock = some g → v.ownBlock ≠ some g) (hg : v.ownBlock = some g ∨ g = w.heap.size) :
    ∀ g', u.ownBlock = some g' → (Value.slice (some ⟨g, 0, none⟩) n' cap).ownBlock ≠ some g' := by
  intro g' e e'
  simp [Value.ownBlock] at e'
  subst e'
  rcases hg with hg | hg
  · exact ha g e hg
  · have := (k.own.lt g e).2
    omega
theorem RowAt.frame {W B : Nat} {w0 w w' : World} {o : Nat} {e : TypeId} {size n n' : Nat} {v v' : Value} {xs xs' : List Value} (h : RowAt B w o e size v n xs) (hn : Below W w0 w) (hB : W ≤ B) (hg : w.grownBy w' v.ownBlock) (_ho : w'.ownsRow (B + 1) e size v' n' xs') :
    Below W w0 (w'.setCell ⟨B, o, none⟩ v') := by
  have := h.lt
  refine Below.setCell (hn.trans ⟨hg.os, hg.tape, hg.output, hg.size, fun k hk => hg.block k (by omega) (fun e => ?_)⟩) hB _
  have := (h.own.lt k e.symm).1
  omega
end Go.Proofs.Ytfhpmihjfojbnaa
