/- A box whose cells hold slices, each with a row of its own behind the box. Nothing here speaks of the program. -/
import Derived.Test.YtilepckgcgdjgaaRows2
namespace Go.Proofs.Ytilepckgcgdjgaa
open Go.RowKit

structure BRow where
  o : Nat
  e : TypeId
  size : Nat
  v : Value
  n : Nat
  xs : List Value
/-- The row with other contents. -/
def BRow.as (r : BRow) (v : Value) (n : Nat) (xs : List Value) : BRow := { r with v := v, n := n, xs := xs }

structure BRows (B base : Nat) (w : World) (rs : List BRow) : Prop where
  cell : ∀ r ∈ rs, w.cell? ⟨B, r.o, none⟩ = some r.v
  warm : ∀ r ∈ rs, w.frozen? ⟨B, r.o, none⟩ = false
  own : ∀ r ∈ rs, w.ownsRow base r.e r.size r.v r.n r.xs
  nb : ∀ r ∈ rs, r.v.ownBlock ≠ some B
  apart : rs.Pairwise (fun r s => r.o ≠ s.o ∧ ∀ g, r.v.ownBlock = some g → s.v.ownBlock ≠ some g)

theorem BRows.new {B base : Nat} {w w' : World} {rs : List BRow} (h : BRows B base w rs) (k : New w w') : BRows B base w' rs :=
  ⟨fun r hr => k.cell (h.cell r hr), fun r hr => k.frz (h.cell r hr) (h.warm r hr), fun r hr => ownsRow_new (h.own r hr) k, h.nb, h.apart⟩
/-- What turns lies in other blocks. -/
theorem BRows.chg {P : Nat → Prop} {B base : Nat} {w w' : World} {rs : List BRow} (h : BRows B base w rs) (k : Chg P w w') (hB : ¬ P B) (hr : ∀ r ∈ rs, ∀ g, r.v.ownBlock = some g → ¬ P g) : BRows B base w' rs :=
  ⟨fun r hm => k.cell (h.cell r hm) hB, fun r hm => (World.frozen?_of_block (k.block B (World.block_lt_of_cell? _ _ (h.cell r hm)) hB)).trans (h.warm r hm),
   fun r hm => ownsRow_block (h.own r hm) fun g e => k.block g ((h.own r hm).lt g e).2 (hr r hm g e), h.nb, h.apart⟩
theorem BRows.lt {B base : Nat} {w : World} {rs : List BRow} (h : BRows B base w rs) {r : BRow} (hr : r ∈ rs) : B < w.heap.size := World.block_lt_of_cell? _ _ (h.cell r hr)

theorem pairwise_mid {α : Type} {R : α → α → Prop} (hR : ∀ a b, R a b → R b a) {pre post : List α} {r : α} (h : (pre ++ r :: post).Pairwise R) : (∀ s ∈ pre, R r s) ∧ (∀ s ∈ post, R r s) ∧ (pre ++ post).Pairwise R := by
  rw [List.pairwise_append, List.pairwise_cons] at h
  refine ⟨fun s hs => hR _ _ (h.2.2 s hs r (by simp)), h.2.1.1, ?_⟩
  rw [List.pairwise_append]
  exact ⟨h.1, h.2.1.2, fun a ha b hb => h.2.2 a ha b (by simp [hb])⟩
theorem mid_pairwise {α : Type} {R : α → α → Prop} (hR : ∀ a b, R a b → R b a) {pre post : List α} {r : α} (h1 : ∀ s ∈ pre, R r s) (h2 : ∀ s ∈ post, R r s) (h : (pre ++ post).Pairwise R) : (pre ++ r :: post).Pairwise R := by
  rw [List.pairwise_append] at h
  rw [List.pairwise_append, List.pairwise_cons]
  refine ⟨h.1, ⟨h2, h.2.1⟩, fun a ha b hb => ?_⟩
  rcases List.mem_cons.1 hb with rfl | hb
  · exact hR _ _ (h1 a ha)
  · exact h.2.2 a ha b hb
def Aside (r s : BRow) : Prop := r.o ≠ s.o ∧ ∀ g, r.v.ownBlock = some g → s.v.ownBlock ≠ some g
theorem Aside.symm (r s : BRow) (h : Aside r s) : Aside s r := ⟨fun e => h.1 e.symm, fun g e e' => h.2 g e' e⟩

/-- One row has grown, and its slice has been laid back into its cell. -/
theorem BRows.grow {B base : Nat} {w w' : World} {pre post : List BRow} {r : BRow} {n' g cap : Nat} {xs' : List Value} (h : BRows B base w (pre ++ r :: post))
    (ho : w'.ownsRow base r.e r.size (.slice (some ⟨g, 0, none⟩) n' cap) n' xs') (hg : w.grownBy w' r.v.ownBlock) (hb : r.v.ownBlock = some g ∨ g = w.heap.size) :
    BRows B base (w'.setCell ⟨B, r.o, none⟩ (.slice (some ⟨g, 0, none⟩) n' cap)) (pre ++ r.as (.slice (some ⟨g, 0, none⟩) n' cap) n' xs' :: post) := by
  have hm : r ∈ pre ++ r :: post := by simp
  have hB := h.lt hm
  have hnb : some B ≠ r.v.ownBlock := fun e => h.nb r hm e.symm
  obtain ⟨a1, a2, a3⟩ := pairwise_mid (R := Aside) Aside.symm h.apart
  have hother : ∀ s ∈ pre ++ post, s ∈ pre ++ r :: post := fun s hs => by
    rcases List.mem_append.1 hs with h | h
    · exact List.mem_append_left _ h
    · exact List.mem_append_right _ (List.mem_cons_of_mem _ h)
  have has : ∀ s ∈ pre ++ post, Aside r s := fun s hs => (List.mem_append.1 hs).elim (a1 s) (a2 s)
  have hc : w'.cell? ⟨B, r.o, none⟩ = some r.v := hg.cell (h.cell r hm) hnb
  have key : ∀ s ∈ pre ++ post, (w'.setCell ⟨B, r.o, none⟩ (.slice (some ⟨g, 0, none⟩) n' cap)).cell? ⟨B, s.o, none⟩ = some s.v ∧ (w'.setCell ⟨B, r.o, none⟩ (.slice (some ⟨g, 0, none⟩) n' cap)).frozen? ⟨B, s.o, none⟩ = false ∧
      (w'.setCell ⟨B, r.o, none⟩ (.slice (some ⟨g, 0, none⟩) n' cap)).ownsRow base s.e s.size s.v s.n s.xs := fun s hs => by
    have hs' := hother s hs
    have ha := has s hs
    refine ⟨?_, ?_, ?_⟩
    · rw [set_other (fun e' => ha.1 (by have q := congrArg Addr.off e'; simp at q; omega))]
      exact hg.cell (h.cell s hs') hnb
    · rw [World.frozen?_setCell]
      exact (hg.frozen_far ⟨B, s.o, none⟩ hB hnb).trans (h.warm s hs')
    · refine ownsRow_block (h.own s hs') fun b e => ?_
      have hl := (h.own s hs').lt b e
      rw [Below.heap_setCell _ _ _ _ (fun e' => by simp at e'; subst e'; exact h.nb s hs' e)]
      exact hg.block b hl.2 (fun e' => ha.2 b e'.symm e)
  have sp : ∀ s, s ∈ pre ++ r.as (.slice (some ⟨g, 0, none⟩) n' cap) n' xs' :: post → s = r.as (.slice (some ⟨g, 0, none⟩) n' cap) n' xs' ∨ s ∈ pre ++ post := fun s hs => by
    rcases List.mem_append.1 hs with h | h
    · exact .inr (List.mem_append_left _ h)
    · rcases List.mem_cons.1 h with rfl | h
      · exact .inl rfl
      · exact .inr (List.mem_append_right _ h)
  have hgB : g ≠ B := fun e => by
    rcases hb with hb | hb
    · exact h.nb r hm (by rw [hb, e])
    · omega
  refine ⟨fun s hs => ?_, fun s hs => ?_, fun s hs => ?_, fun s hs => ?_, ?_⟩
  · rcases sp s hs with rfl | hs
    · exact set_same hc
    · exact (key s hs).1
  · rcases sp s hs with rfl | hs
    · rw [World.frozen?_setCell]
      exact (hg.frozen_far ⟨B, r.o, none⟩ hB hnb).trans (h.warm r hm)
    · exact (key s hs).2.1
  · rcases sp s hs with rfl | hs
    · exact ownsRow_block ho fun b e => Below.heap_setCell _ _ _ _ (fun e' => by have q : some g = some b := e; simp at e' q; exact hgB (by omega))
    · exact (key s hs).2.2
  · rcases sp s hs with rfl | hs
    · intro e; simp [BRow.as, Value.ownBlock] at e; exact hgB e
    · exact h.nb s (hother s hs)
  · have hx : ∀ s ∈ pre ++ post, Aside (r.as (.slice (some ⟨g, 0, none⟩) n' cap) n' xs') s := fun s hs => by
      refine ⟨(has s hs).1, fun b e e' => ?_⟩
      simp [BRow.as, Value.ownBlock] at e
      subst e
      rcases hb with hb | hb
      · exact (has s hs).2 g hb e'
      · have := ((h.own s (hother s hs)).lt g e').2
        omega
    exact mid_pairwise (R := Aside) Aside.symm (fun s hs => hx s (List.mem_append_left _ hs)) (fun s hs => hx s (List.mem_append_right _ hs)) a3
/-- Nothing below the box has turned when a row has grown. -/
theorem BRows.frame {W B base : Nat} {w0 w w' : World} {pre post : List BRow} {r : BRow} {v' : Value} (h : BRows B base w (pre ++ r :: post)) (hn : Below W w0 w) (hB : W ≤ B) (hb : W ≤ base) (hg : w.grownBy w' r.v.ownBlock) :
    Below W w0 (w'.setCell ⟨B, r.o, none⟩ v') := by
  have hm : r ∈ pre ++ r :: post := by simp
  have := h.lt hm
  refine Below.setCell (hn.trans ⟨hg.os, hg.tape, hg.output, hg.size, fun k hk => hg.block k (by omega) (fun e => ?_)⟩) hB _
  have := ((h.own r hm).lt k e.symm).1
  omega
/-- One row's contents have turned in place. -/
theorem BRows.turn {B base : Nat} {w w' : World} {pre post : List BRow} {r : BRow} {xs' : List Value} (h : BRows B base w (pre ++ r :: post)) (ho : w'.ownsRow base r.e r.size r.v r.n xs') (hc : Chg (fun b => r.v.ownBlock = some b) w w') :
    BRows B base w' (pre ++ r.as r.v r.n xs' :: post) := by
  have hm : r ∈ pre ++ r :: post := by simp
  have hB := h.lt hm
  have hnb : ¬ r.v.ownBlock = some B := h.nb r hm
  obtain ⟨a1, a2, a3⟩ := pairwise_mid (R := Aside) Aside.symm h.apart
  have hother : ∀ s ∈ pre ++ post, s ∈ pre ++ r :: post := fun s hs => by
    rcases List.mem_append.1 hs with h | h
    · exact List.mem_append_left _ h
    · exact List.mem_append_right _ (List.mem_cons_of_mem _ h)
  have has : ∀ s ∈ pre ++ post, Aside r s := fun s hs => (List.mem_append.1 hs).elim (a1 s) (a2 s)
  have sp : ∀ s, s ∈ pre ++ r.as r.v r.n xs' :: post → s = r.as r.v r.n xs' ∨ s ∈ pre ++ post := fun s hs => by
    rcases List.mem_append.1 hs with h | h
    · exact .inr (List.mem_append_left _ h)
    · rcases List.mem_cons.1 h with rfl | h
      · exact .inl rfl
      · exact .inr (List.mem_append_right _ h)
  refine ⟨fun s hs => ?_, fun s hs => ?_, fun s hs => ?_, fun s hs => ?_, ?_⟩
  · rcases sp s hs with rfl | hs
    · exact hc.cell (h.cell r hm) hnb
    · exact hc.cell (h.cell s (hother s hs)) hnb
  · rcases sp s hs with rfl | hs
    · exact (World.frozen?_of_block (hc.block B hB hnb)).trans (h.warm r hm)
    · exact (World.frozen?_of_block (hc.block B hB hnb)).trans (h.warm s (hother s hs))
  · rcases sp s hs with rfl | hs
    · exact ho
    · exact ownsRow_block (h.own s (hother s hs)) fun b e => hc.block b ((h.own s (hother s hs)).lt b e).2 (fun e' => (has s hs).2 b e' e)
  · rcases sp s hs with rfl | hs
    · exact h.nb r hm
    · exact h.nb s (hother s hs)
  · exact mid_pairwise (R := Aside) Aside.symm (fun s hs => ⟨(a1 s hs).1, (a1 s hs).2⟩) (fun s hs => ⟨(a2 s hs).1, (a2 s hs).2⟩) a3
/-- The cell of a row that grows stands when it has grown. -/
theorem BRows.store {B base : Nat} {w w' : World} {rs : List BRow} (h : BRows B base w rs) {r : BRow} (hr : r ∈ rs) (hg : w.grownBy w' r.v.ownBlock) : w'.cell? ⟨B, r.o, none⟩ = some r.v ∧ w'.frozen? ⟨B, r.o, none⟩ = false :=
  ⟨hg.cell (h.cell r hr) (fun e => h.nb r hr e.symm), (hg.frozen_far ⟨B, r.o, none⟩ (h.lt hr) (fun e => h.nb r hr e.symm)).trans (h.warm r hr)⟩
theorem BRows.apartB {B base : Nat} {w : World} {rs : List BRow} (h : BRows B base w rs) {r : BRow} (hr : r ∈ rs) : r.v.ownBlock ≠ some B := h.nb r hr
end Go.Proofs.Ytilepckgcgdjgaa
