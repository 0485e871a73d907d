/- A box of four slices, three of which grow by append, and what lies beside them and stays. Nothing here speaks of the program's functions. -/
import Derived.Test.YtchnnbkaiagpgaaBlk
import Derived.Test.YtchnnbkaiagpgaaRows2b
import Derived.Test.YtchnnbkaiagpgaaRowBasin
namespace Go.Proofs.Ytchnnbkaiagpgaa
open Go.RowKit

def hotV (B0 B : Nat) (v : Nat → Value) (b : Nat) : Prop := (b = B ∨ b ≤ B0) ∨ ∃ o, o ≠ 1 ∧ o < 4 ∧ (v o).ownBlock = some b
/-- R holds in every world that has the same blocks but for the hot ones. -/
def Cold (B0 B : Nat) (v : Nat → Value) (wr : World) (R : World → Prop) : Prop := ∀ w' : World, (∀ b, b < wr.heap.size → ¬ hotV B0 B v b → w'.heap[b]? = wr.heap[b]?) → R w'
theorem Cold.out {B0 B : Nat} {v : Nat → Value} {wr : World} {R : World → Prop} (h : Cold B0 B v wr R) : R wr := h wr fun _ _ _ => rfl
theorem Cold.step {B0 B : Nat} {v v2 : Nat → Value} {wr w2 : World} {R : World → Prop} (h : Cold B0 B v wr R) (hs : wr.heap.size ≤ w2.heap.size) (hk : ∀ b, b < wr.heap.size → ¬ hotV B0 B v b → w2.heap[b]? = wr.heap[b]?)
    (hv : ∀ b, hotV B0 B v2 b → hotV B0 B v b ∨ wr.heap.size ≤ b) : Cold B0 B v2 w2 R := fun w' k =>
  h w' fun b hb hn => (k b (by omega) (fun e => (hv b e).elim hn (by omega))).trans (hk b hb hn)
def upd {α : Type} (f : Nat → α) (o : Nat) (x : α) : Nat → α := fun j => if j = o then x else f j

structure GrowBox (w wr : World) (B0 B : Nat) (t : TypeId) (z : List Value) (v : Nat → Value) (ty : Nat → TypeId) (N : Nat → Nat) (X : Nat → List Value) : Prop where
  new : New w wr
  box0 : WB wr B0 z t
  box : WB wr B [v 0, v 1, v 2, v 3] t
  own : ∀ o, o ≠ 1 → o < 4 → wr.ownsRow (B + 1) (ty o) 1 (v o) (N o) (X o)
  apart : ∀ o o', o ≠ 1 → o < 4 → o' ≠ 1 → o' < 4 → o ≠ o' → ∀ g, (v o).ownBlock = some g → (v o').ownBlock ≠ some g
  le : w.heap.size ≤ B0 ∧ B0 < B
section
variable {w wr : World} {B0 B : Nat} {t : TypeId} {z : List Value} {v : Nat → Value} {ty : Nat → TypeId} {N : Nat → Nat} {X : Nat → List Value}
theorem GrowBox.hot_lt (h : GrowBox w wr B0 B t z v ty N X) {b : Nat} (hb : hotV B0 B v b) : b < wr.heap.size := by
  have hl := h.le
  rcases hb with (rfl | hb) | ⟨o, h1, h2, e⟩
  · exact h.box.lt
  · have := h.box0.lt; omega
  · exact ((h.own o h1 h2).lt b e).2
theorem GrowBox.cell (h : GrowBox w wr B0 B t z v ty N X) (o : Nat) (ho : o < 4) : wr.cell? ⟨B, o, none⟩ = some (v o) := by
  match o, ho with
  | 0, _ => exact h.box.cell rfl
  | 1, _ => exact h.box.cell rfl
  | 2, _ => exact h.box.cell rfl
  | 3, _ => exact h.box.cell rfl
theorem GrowBox.kept {w' : World} (h : GrowBox w wr B0 B t z v ty N X) (k : New wr w') : GrowBox w w' B0 B t z v ty N X :=
  { h with new := h.new.trans k, box0 := h.box0.new k, box := h.box.new k, own := fun o h1 h2 => ownsRow_new (h.own o h1 h2) k }
theorem Cold.kept {w' : World} {R : World → Prop} (h : Cold B0 B v wr R) (k : New wr w') : Cold B0 B v w' R := h.step k.size (fun b hb _ => k.block b hb) (fun _ e => .inl e)
theorem box_set (v : Nat → Value) (o : Nat) (ho : o < 4) (x : Value) : ([v 0, v 1, v 2, v 3] : List Value).set o x = [upd v o x 0, upd v o x 1, upd v o x 2, upd v o x 3] := by
  match o, ho with
  | 0, _ => rfl
  | 1, _ => rfl
  | 2, _ => rfl
  | 3, _ => rfl
/-- The cell that is not grown is laid anew. -/
theorem GrowBox.put1 (h : GrowBox w wr B0 B t z v ty N X) (x : Value) : GrowBox w (wr.setCell ⟨B, 1, none⟩ x) B0 B t z (upd v 1 x) ty N X := by
  have hl := h.le
  have hv : ∀ o, o ≠ 1 → upd v 1 x o = v o := fun o ho => by simp [upd, ho]
  refine ⟨h.new.setCell (by show w.heap.size ≤ B; omega) _, h.box0.apart (by show B ≠ B0; omega) _, (h.box.set 1 x).eqv (box_set v 1 (by omega) x), fun o h1 h2 => ?_, fun o o' h1 h2 h3 h4 hne => ?_, hl⟩
  · rw [hv o h1]
    exact ownsRow_block (h.own o h1 h2) fun g e => Below.heap_setCell _ _ _ _ (fun e' => by have := ((h.own o h1 h2).lt g e).1; simp at e'; omega)
  · rw [hv o h1, hv o' h3]
    exact h.apart o o' h1 h2 h3 h4 hne
theorem Cold.put1 {R : World → Prop} (h : Cold B0 B v wr R) (x : Value) : Cold B0 B (upd v 1 x) (wr.setCell ⟨B, 1, none⟩ x) R := by
  refine h.step (by simp) (fun b hb hn => Below.heap_setCell _ _ _ _ (fun e => hn (.inl (.inl e)))) (fun b e => .inl ?_)
  rcases e with e | ⟨o, h1, h2, e⟩
  · exact .inl e
  · exact .inr ⟨o, h1, h2, by simpa [upd, h1] using e⟩
/-- One of the others has grown, and its slice has been laid back. -/
theorem GrowBox.grow {w' : World} {o n' cap g : Nat} {xs : List Value} (h : GrowBox w wr B0 B t z v ty N X) (ho1 : o ≠ 1) (ho : o < 4) (hw : w'.ownsRow (B + 1) (ty o) 1 (.slice (some ⟨g, 0, none⟩) n' cap) n' xs) (hg : wr.grownBy w' (v o).ownBlock) (hb : (v o).ownBlock = some g ∨ g = wr.heap.size) :
    GrowBox w (w'.setCell ⟨B, o, none⟩ (.slice (some ⟨g, 0, none⟩) n' cap)) B0 B t z (upd v o (.slice (some ⟨g, 0, none⟩) n' cap)) ty (upd N o n') (upd X o xs) := by
  have hl := h.le
  have own := h.own o ho1 ho
  have nB : ∀ q, q ≤ B → some q ≠ (v o).ownBlock := fun q hq e => by have := (own.lt q e.symm).1; omega
  have hBl := h.box.lt
  have hB0l := h.box0.lt
  have hn : New w w' := New.grown h.new own (by omega) hg
  have k0 : w'.heap[B0]? = wr.heap[B0]? := hg.block B0 hB0l (nB B0 (by omega))
  have k1 : w'.heap[B]? = wr.heap[B]? := hg.block B hBl (nB B (by omega))
  have far : ∀ q, B + 1 ≤ q → (w'.setCell ⟨B, o, none⟩ (.slice (some ⟨g, 0, none⟩) n' cap)).heap[q]? = w'.heap[q]? := fun q hq => Below.heap_setCell _ _ _ _ (fun e => by simp at e; omega)
  refine ⟨hn.setCell (by show w.heap.size ≤ B; omega) _, (h.box0.of k0).apart (by show B ≠ B0; omega) _, ((h.box.of k1).set o _).eqv (box_set v o ho _), fun q h1 h2 => ?_, fun q q' h1 h2 h3 h4 hne => ?_, hl⟩
  · by_cases e : q = o
    · subst e
      simp only [upd, if_pos]
      exact ownsRow_block hw fun i ei => far i (hw.lt i ei).1
    · simp only [upd, if_neg e]
      have r := rows_beside (h.own q h1 h2) (fun i ei => h.apart q o h1 h2 ho1 ho e i ei) hg
      exact ownsRow_block r fun i ei => far i (r.lt i ei).1
  · have key : ∀ q, q ≠ 1 → q < 4 → q ≠ o → ∀ i, (v q).ownBlock = some i → (Value.slice (some ⟨g, 0, none⟩) n' cap).ownBlock ≠ some i := fun q h1 h2 e => rows_apart (h.own q h1 h2) (fun i ei => h.apart q o h1 h2 ho1 ho e i ei) hb
    intro i ei ei'
    by_cases e : q = o
    · by_cases e' : q' = o
      · exact hne (e.trans e'.symm)
      · simp only [upd, if_pos e] at ei
        simp only [upd, if_neg e'] at ei'
        exact key q' h3 h4 e' i ei' ei
    · by_cases e' : q' = o
      · simp only [upd, if_neg e] at ei
        simp only [upd, if_pos e'] at ei'
        exact key q h1 h2 e i ei ei'
      · simp only [upd, if_neg e] at ei
        simp only [upd, if_neg e'] at ei'
        exact h.apart q q' h1 h2 h3 h4 hne i ei ei'
theorem GrowBox.cold {w' : World} {o n' cap g : Nat} {R : World → Prop} (_h : GrowBox w wr B0 B t z v ty N X) (ho1 : o ≠ 1) (ho : o < 4) (hg : wr.grownBy w' (v o).ownBlock) (hb : (v o).ownBlock = some g ∨ g = wr.heap.size) (c : Cold B0 B v wr R) :
    Cold B0 B (upd v o (.slice (some ⟨g, 0, none⟩) n' cap)) (w'.setCell ⟨B, o, none⟩ (.slice (some ⟨g, 0, none⟩) n' cap)) R := by
  refine c.step (by simpa using hg.size) (fun b hbl hn => ?_) (fun b e => ?_)
  · rw [Below.heap_setCell _ _ _ _ (fun e => hn (.inl (.inl e)))]
    exact hg.block b hbl (fun e => hn (.inr ⟨o, ho1, ho, e.symm⟩))
  · rcases e with e | ⟨q, h1, h2, e⟩
    · exact .inl (.inl e)
    · by_cases eq : q = o
      · simp only [upd, if_pos eq, Value.ownBlock] at e
        simp at e
        subst e
        rcases hb with hb | hb
        · exact .inl (.inr ⟨o, ho1, ho, hb⟩)
        · exact .inr (by omega)
      · simp only [upd, if_neg eq] at e
        exact .inl (.inr ⟨q, h1, h2, e⟩)
theorem GrowBox.cold_bas (h : GrowBox w wr B0 B t z v ty N X) {w4 : World} {ao : Option Addr} {n cap : Nat} {l : List (Int × Int × Int)} (o1 : OwnBasin w4 wr.heap.size w4.heap.size ao n cap l) : Cold B0 B v w4 (fun w' => Basins w' ao n cap l) := fun w' k =>
  (o1.turned fun b hn hbk hlt => k b hlt (fun e => by have := h.hot_lt e; have := (o1.bounds hn hbk).1; omega)).reads
theorem GrowBox.cold_ints (h : GrowBox w wr B0 B t z v ty N X) {w4 : World} {ao : Option Addr} {n cap : Nat} {l : List Int} (o1 : Own w4 wr.heap.size w4.heap.size ao n cap l) : Cold B0 B v w4 (fun w' => Ints w' ao n cap l) := fun w' k =>
  (o1.turned fun b hn hbk hlt => k b hlt (fun e => by have := h.hot_lt e; have := (o1.bounds hn hbk).1; omega)).ints
end
theorem GrowBox.eqv {w wr : World} {B0 B : Nat} {t : TypeId} {z : List Value} {v : Nat → Value} {ty : Nat → TypeId} {N N' : Nat → Nat} {X X' : Nat → List Value} (h : GrowBox w wr B0 B t z v ty N X) (e : ∀ o, o ≠ 1 → o < 4 → N o = N' o ∧ X o = X' o) : GrowBox w wr B0 B t z v ty N' X' :=
  { h with own := fun o h1 h2 => by rw [← (e o h1 h2).1, ← (e o h1 h2).2]; exact h.own o h1 h2 }
theorem slice_of_row {w : World} {base n size : Nat} {e : TypeId} {v : Value} {xs : List Value} (h : w.ownsRow base e size v n xs) : ∃ ao cap, v = .slice ao n cap := by
  rcases h.2 with ⟨rfl, rfl⟩ | ⟨g, cap, cur, rfl, _⟩
  · exact ⟨_, _, rfl⟩
  · exact ⟨_, _, rfl⟩
end Go.Proofs.Ytchnnbkaiagpgaa
