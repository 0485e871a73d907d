/- The round of a siphon, as the program lays it into a variable. -/
import Derived.Test.YtafiihhiipfejaaPer
import Derived.Test.YtafiihhiipfejaaPulseS
namespace Go.Proofs.Ytafiihhiipfejaa
open Go.RowKit Go.Maps

theorem lvAt_one (a b c d x : Int) (i : Nat) : lvAt (chSt [(a, b, c, d)] x i) 0 = cst a b c d x i := by rw [chSt_one]; rfl
theorem New.iter {w2 wr w' : World} {r : Nat} (h : New w2 wr) (hg : wr.grownBy w' (some r)) (hr : w2.heap.size ≤ r) : New w2 w' :=
  Below.trans h ⟨hg.os, hg.tape, hg.output, hg.size, fun k hk => hg.block k (by have := h.size; omega) (fun e => by cases e; omega)⟩
theorem New.first {w2 w3 : World} (hg : w2.grownBy w3 none) : New w2 w3 := ⟨hg.os, hg.tape, hg.output, hg.size, fun k hk => hg.block k hk (by simp)⟩
theorem th9 (w1 : World) : (w1.alloc (.cells #[.map none, .int .i64 0, .bool false, .int .i64 0, .bool false, .int .i64 0, .bool false, .int .i64 0, .bool false] 64)).there w1.heap.size 0 9 := by
  intro j hj
  rw [Nat.zero_add]
  match j, hj with
  | 0, _ => exact ⟨by simp [go_sem], by simp [go_sem]⟩
  | 1, _ => exact ⟨by simp [go_sem], by simp [go_sem]⟩
  | 2, _ => exact ⟨by simp [go_sem], by simp [go_sem]⟩
  | 3, _ => exact ⟨by simp [go_sem], by simp [go_sem]⟩
  | 4, _ => exact ⟨by simp [go_sem], by simp [go_sem]⟩
  | 5, _ => exact ⟨by simp [go_sem], by simp [go_sem]⟩
  | 6, _ => exact ⟨by simp [go_sem], by simp [go_sem]⟩
  | 7, _ => exact ⟨by simp [go_sem], by simp [go_sem]⟩
  | 8, _ => exact ⟨by simp [go_sem], by simp [go_sem]⟩
theorem stored_yes {w1 w2 : World} {B N : Nat} {D : DataW Unit} {L : List (Int × Bool)} (hw2 : w2 = (w1.alloc (.cells #[.map none, .int .i64 0, .bool false, .int .i64 0, .bool false, .int .i64 0, .bool false, .int .i64 0, .bool false] 64)).setCells w1.heap.size 0 (roundC B L).toArray.toList) (hom : w1.ownsMap Try.prog 62 (plainElem Try.prog 3) B N D) :
    w2.cell? ⟨w1.heap.size, 0, none⟩ = some (.map (some B)) ∧ w2.cell? ⟨w1.heap.size, 1, none⟩ = some (.int .i64 (lvAt L 0).1) ∧ w2.cell? ⟨w1.heap.size, 2, none⟩ = some (.bool (lvAt L 0).2) ∧ New w1 w2 ∧ w2.ownsMap Try.prog 62 (plainElem Try.prog 3) B N D ∧ w1.heap.size < w2.heap.size := by
  have rg : w2.rangeAt w1.heap.size 0 (roundC B L) := by rw [hw2]; exact World.rangeAt_setCells_same _ w1.heap.size 0 _ (th9 w1)
  have e : ∀ j v, (roundC B L)[j]? = some v → w2.cell? ⟨w1.heap.size, j, none⟩ = some v := fun j v hv => by
    have := rg j v hv
    simpa using this
  have d0 : w2.cell? ⟨w1.heap.size, 0, none⟩ = some (.map (some B)) := e 0 _ rfl
  have n12 : New w1 w2 := by rw [hw2]; exact New.setCells ((New.refl w1).alloc _) (Nat.le_refl _) _ _
  have zB : B < w1.heap.size := by
    obtain ⟨es, clock, hb, _⟩ := hom
    exact (Array.getElem?_eq_some_iff.1 hb).1
  exact ⟨d0, e 1 _ rfl, e 2 _ rfl, n12, ownsMap_of_block hom (n12.block B zB), World.block_lt_of_cell? _ _ d0⟩
end Go.Proofs.Ytafiihhiipfejaa
