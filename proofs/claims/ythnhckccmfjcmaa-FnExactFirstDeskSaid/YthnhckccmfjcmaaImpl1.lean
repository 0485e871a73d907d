/- The program's functions of chapter 1, up to one move. -/
import Derived.Test.YthnhckccmfjcmaaModel
import Derived.Deep.RegionHeld3
import Derived.Deep.DeepCutAuto
import Derived.Deep.MidRow
import Derived.Deep.DeepMust
namespace Go.Proofs.Ythnhckccmfjcmaa
open Go.RowKit

/-- What vessels hold, as an array of five. -/
abbrev holdV (H : List Int) : Value := .agg #[.int .i64 (H[0]?.getD 0), .int .i64 (H[1]?.getD 0), .int .i64 (H[2]?.getD 0), .int .i64 (H[3]?.getD 0), .int .i64 (H[4]?.getD 0)]

/-- A box that holds such an array. -/
structure Box5 (W : World) (B : Nat) (H : List Int) : Prop where
  lt : B < W.heap.size
  cell : ∀ k, k < 5 → W.cell? ⟨B, k, none⟩ = some (.int .i64 (H[k]?.getD 0))
  frozen : ∀ k, W.frozen? ⟨B, k, none⟩ = false
theorem Box5.made (w : World) (H : List Int) (t : TypeId) :
    Box5 (w.alloc (.cells #[.int .i64 (H[0]?.getD 0), .int .i64 (H[1]?.getD 0), .int .i64 (H[2]?.getD 0), .int .i64 (H[3]?.getD 0), .int .i64 (H[4]?.getD 0)] t)) w.heap.size H where
  lt := by simp
  cell := by
    intro k hk
    rw [World.cell?_alloc_new]
    match k, hk with
    | 0, _ => rfl
    | 1, _ => rfl
    | 2, _ => rfl
    | 3, _ => rfl
    | 4, _ => rfl
  frozen := fun k => by simp only [World.frozen?_alloc_new]
theorem Box5.new {W W' : World} {B : Nat} {H : List Int} (h : Box5 W B H) (k : New W W') : Box5 W' B H :=
  ⟨Nat.lt_of_lt_of_le h.lt k.size, fun i hi => k.cell (h.cell i hi), fun i => (Below.frozen (p := ⟨B, i, none⟩) k h.lt).trans (h.frozen i)⟩

theorem Box5.set {W : World} {B : Nat} {H : List Int} (h : Box5 W B H) {j : Nat} (hj : j < 5) (hj' : j < H.length) (z : Int) : Box5 (W.setCell ⟨B, j, none⟩ (.int .i64 z)) B (H.set j z) where
  lt := by simpa using h.lt
  cell := by
    intro k hk
    by_cases e : j = k
    · subst e
      rw [set_same (h.cell j hj)]
      simp [hj']
    · rw [set_other (fun h => e (by cases h; rfl)), h.cell k hk, List.getElem?_set, if_neg e]
  frozen := fun k => by rw [World.frozen?_setCell]; exact h.frozen k
theorem Box5.setOther {W : World} {B : Nat} {H : List Int} (h : Box5 W B H) {p : Addr} (hp : p.block ≠ B) (u : Value) : Box5 (W.setCell p u) B H where
  lt := by simpa using h.lt
  cell := fun k hk => World.cell_set (h.cell k hk) (fun e => hp e.symm)
  frozen := fun k => by rw [World.frozen?_setCell]; exact h.frozen k
theorem Box5.five {W : World} {B : Nat} {H : List Int} (h : Box5 W B H) :
    W.cell? ⟨B, 0, none⟩ = some (.int .i64 (H[0]?.getD 0)) ∧ W.cell? ⟨B, 1, none⟩ = some (.int .i64 (H[1]?.getD 0)) ∧ W.cell? ⟨B, 2, none⟩ = some (.int .i64 (H[2]?.getD 0)) ∧ W.cell? ⟨B, 3, none⟩ = some (.int .i64 (H[3]?.getD 0)) ∧ W.cell? ⟨B, 4, none⟩ = some (.int .i64 (H[4]?.getD 0)) :=
  ⟨h.cell 0 (by omega), h.cell 1 (by omega), h.cell 2 (by omega), h.cell 3 (by omega), h.cell 4 (by omega)⟩
theorem Box5.warm {W : World} {B : Nat} {H : List Int} (h : Box5 W B H) :
    W.frozen? ⟨B, 0, none⟩ = false ∧ W.frozen? ⟨B, 1, none⟩ = false ∧ W.frozen? ⟨B, 2, none⟩ = false ∧ W.frozen? ⟨B, 3, none⟩ = false ∧ W.frozen? ⟨B, 4, none⟩ = false :=
  ⟨h.frozen _, h.frozen _, h.frozen _, h.frozen _, h.frozen _⟩

/-- The five cells, as a list. -/
abbrev cells5 (H : List Int) : List Value := [.int .i64 (H[0]?.getD 0), .int .i64 (H[1]?.getD 0), .int .i64 (H[2]?.getD 0), .int .i64 (H[3]?.getD 0), .int .i64 (H[4]?.getD 0)]
theorem Box5.range {W : World} {B : Nat} {H : List Int} (h : Box5 W B H) : W.rangeAt B 0 (cells5 H) := by
  intro j v hv
  obtain ⟨c0, c1, c2, c3, c4⟩ := h.five
  match j, hv with
  | 0, hv => simp at hv; subst hv; simpa using c0
  | 1, hv => simp at hv; subst hv; simpa using c1
  | 2, hv => simp at hv; subst hv; simpa using c2
  | 3, hv => simp at hv; subst hv; simpa using c3
  | 4, hv => simp at hv; subst hv; simpa using c4
  | k + 5, hv => simp at hv
theorem Box5.there {W : World} {B : Nat} {H : List Int} (h : Box5 W B H) : W.there B 0 5 := fun j hj =>
  ⟨by rw [Nat.zero_add, h.cell j hj]; rfl, by rw [Nat.zero_add]; exact h.frozen j⟩
theorem Box5.room {W : World} {B : Nat} {H : List Int} (h : Box5 W B H) (L : List Int) : W.there B 0 (cells5 L).toArray.size := h.there
theorem cells5_one (L : List Int) : ((cells5 L).toArray.all fun x => x.oneCell') = true :=
  all_oneCell_toArray (by intro v hv; simp at hv; rcases hv with rfl | rfl | rfl | rfl | rfl <;> rfl)
theorem Box5.fill {W : World} {B : Nat} {L : List Int} (h : Box5 W B L) (H : List Int) : Box5 (W.setCells B 0 (cells5 H)) B H where
  lt := by
    have := h.lt
    simpa [World.setCells] using this
  cell := by
    intro k hk
    have hr := World.rangeAt_setCells_same W B 0 (cells5 H) h.there
    have := hr k (.int .i64 (H[k]?.getD 0)) (by
      match k, hk with
      | 0, _ => rfl
      | 1, _ => rfl
      | 2, _ => rfl
      | 3, _ => rfl
      | 4, _ => rfl)
    simpa using this
  frozen := fun k => by rw [World.frozen?_setCells]; exact h.frozen k
theorem New.setCells {a b : World} (h : New a b) {B : Nat} (hB : a.heap.size ≤ B) : ∀ (vs : List Value) (o : Nat), New a (b.setCells B o vs) := by
  intro vs
  induction vs generalizing b with
  | nil => intro o; exact h
  | cons v r ih => intro o; exact ih (h.setCell hB _) (o + 1)
end Go.Proofs.Ythnhckccmfjcmaa
