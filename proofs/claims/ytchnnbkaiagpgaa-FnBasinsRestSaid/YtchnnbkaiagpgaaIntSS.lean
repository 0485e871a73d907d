/- Slices of slices of integers: how they read, all their rows the call's own and apart, and the laws' helpers over them. -/
import Derived.Test.YtchnnbkaiagpgaaAll
import Derived.Deep.RegionHeld3
namespace Go.Proofs.Ytchnnbkaiagpgaa
open Go.RowKit

/-- How many numbers the first k rows have together. -/
def sumTo (L : List (List Int)) (k : Nat) : Nat := ((L.take k).map List.length).sum
def totalSS (L : List (List Int)) : Nat := sumTo L L.length
theorem sumTo_zero (L : List (List Int)) : sumTo L 0 = 0 := by simp [sumTo]
theorem sumTo_succ (L : List (List Int)) (k : Nat) (hk : k < L.length) : sumTo L (k + 1) = sumTo L k + (L[k]?.getD []).length := by
  have e : L.take (k + 1) = L.take k ++ [L[k]] := by rw [List.take_add_one, List.getElem?_eq_getElem hk]; rfl
  unfold sumTo
  rw [e, List.getElem?_eq_getElem hk, List.map_append, List.sum_append]
  simp
theorem sumTo_mono (L : List (List Int)) (i j : Nat) (h : i ≤ j) (hj : j ≤ L.length) : sumTo L i ≤ sumTo L j := by
  induction j with
  | zero => have : i = 0 := by omega
            subst this; exact Nat.le_refl _
  | succ j ih =>
    by_cases e : i = j + 1
    · subst e; exact Nat.le_refl _
    · have := ih (by omega) (by omega)
      rw [sumTo_succ L j (by omega)]
      omega
theorem sumTo_le (L : List (List Int)) (k : Nat) (hk : k ≤ L.length) : sumTo L k ≤ totalSS L := sumTo_mono L k L.length hk (Nat.le_refl _)

def IntSS (w : World) (ao : Option Addr) (n cap : Nat) (L : List (List Int)) : Prop :=
  n = L.length ∧ n ≤ cap ∧ n ≤ 9223372036854775807 ∧ (∀ j, j < n → ∃ b o a m c, ao = some ⟨b, o, none⟩ ∧ w.cell? ⟨b, o + j, none⟩ = some (.slice a m c) ∧ Ints w a m c (L[j]?.getD [])) ∧ (ao = none → cap = 0)
theorem IntSS.new {w w' : World} {ao : Option Addr} {n cap : Nat} {L : List (List Int)} (h : IntSS w ao n cap L) (k : New w w') : IntSS w' ao n cap L := by
  obtain ⟨h1, h2, h3, h4, h5⟩ := h
  refine ⟨h1, h2, h3, fun j hj => ?_, h5⟩
  obtain ⟨b, o, a, m, c, e, hc, hi⟩ := h4 j hj
  exact ⟨b, o, a, m, c, e, k.cell hc, hi.new k⟩
theorem IntSS.len {w : World} {ao : Option Addr} {n cap : Nat} {L : List (List Int)} (h : IntSS w ao n cap L) : n = L.length := h.1

/-- The rows of a slice of slices: the outer one in the block b, the inner ones as hd tells. -/
structure RowsSS (w : World) (lo hi : Nat) (b n cap : Nat) (f : Nat → Value) (hd : Nat → Option Addr × Nat × Nat) (L : List (List Int)) : Prop where
  lo_le : lo ≤ b
  lt_hi : b < hi
  row : w.rowIs b 25 cap f
  heads : ∀ j, j < n → f j = .slice (hd j).1 (hd j).2.1 (hd j).2.2
  own : ∀ j, j < n → Own w lo hi (hd j).1 (hd j).2.1 (hd j).2.2 (L[j]?.getD [])
  outer : ∀ j, j < n → (hd j).2.1 ≠ 0 → blkOf (hd j).1 ≠ some b
  apart : ∀ i j, i < n → j < n → i ≠ j → (hd i).2.1 ≠ 0 → (hd j).2.1 ≠ 0 → blkOf (hd i).1 ≠ blkOf (hd j).1
def OwnSS (w : World) (lo hi : Nat) (ao : Option Addr) (n cap : Nat) (L : List (List Int)) : Prop :=
  n = L.length ∧ n ≤ cap ∧ n ≤ 9223372036854775807 ∧ ((n = 0 ∧ (ao = none → cap = 0)) ∨ ∃ b f hd, ao = some ⟨b, 0, none⟩ ∧ RowsSS w lo hi b n cap f hd L)
theorem OwnSS.nil (w : World) (lo hi : Nat) : OwnSS w lo hi none 0 0 [] := ⟨rfl, Nat.le_refl _, by omega, .inl ⟨rfl, fun _ => rfl⟩⟩
theorem RowsSS.turned {w w' : World} {lo hi b n cap : Nat} {f : Nat → Value} {hd : Nat → Option Addr × Nat × Nat} {L : List (List Int)} (h : RowsSS w lo hi b n cap f hd L)
    (k : ∀ i, lo ≤ i → i < hi → i < w.heap.size → w'.heap[i]? = w.heap[i]?) : RowsSS w' lo hi b n cap f hd L :=
  { h with row := h.row.of_block (k b h.lo_le h.lt_hi h.row.lt), own := fun j hj => (h.own j hj).turned fun i hn hb hlt => k i ((h.own j hj).bounds hn hb).1 ((h.own j hj).bounds hn hb).2 hlt }
theorem OwnSS.turned {w w' : World} {lo hi : Nat} {ao : Option Addr} {n cap : Nat} {L : List (List Int)} (h : OwnSS w lo hi ao n cap L) (k : ∀ i, lo ≤ i → i < hi → i < w.heap.size → w'.heap[i]? = w.heap[i]?) : OwnSS w' lo hi ao n cap L := by
  obtain ⟨h1, h2, h3, h4⟩ := h
  refine ⟨h1, h2, h3, h4.imp id ?_⟩
  rintro ⟨b, f, hd, e, r⟩
  exact ⟨b, f, hd, e, r.turned k⟩
theorem OwnSS.new {w w' : World} {lo hi : Nat} {ao : Option Addr} {n cap : Nat} {L : List (List Int)} (h : OwnSS w lo hi ao n cap L) (k : New w w') : OwnSS w' lo hi ao n cap L :=
  h.turned fun i _ _ hi => k.block i hi
theorem OwnSS.chg {P : Nat → Prop} {w w' : World} {lo hi : Nat} {ao : Option Addr} {n cap : Nat} {L : List (List Int)} (h : OwnSS w lo hi ao n cap L) (k : Chg P w w') (hP : ∀ b, lo ≤ b → b < hi → ¬ P b) : OwnSS w' lo hi ao n cap L :=
  h.turned fun i h1 h2 hlt => k.block i hlt (hP i h1 h2)
theorem OwnSS.mono {w : World} {lo hi lo' hi' : Nat} {ao : Option Addr} {n cap : Nat} {L : List (List Int)} (h : OwnSS w lo hi ao n cap L) (h1 : lo' ≤ lo) (h2 : hi ≤ hi') : OwnSS w lo' hi' ao n cap L := by
  obtain ⟨a, b, c, d⟩ := h
  refine ⟨a, b, c, d.imp id ?_⟩
  rintro ⟨b, f, hd, e, r⟩
  exact ⟨b, f, hd, e, { r with lo_le := by have := r.lo_le; omega, lt_hi := by have := r.lt_hi; omega, own := fun j hj => (r.own j hj).mono h1 h2 }⟩
theorem OwnSS.setCell {w : World} {lo hi : Nat} {ao : Option Addr} {n cap : Nat} {L : List (List Int)} (h : OwnSS w lo hi ao n cap L) {p : Addr} (hp : p.block < lo ∨ hi ≤ p.block) (u : Value) : OwnSS (w.setCell p u) lo hi ao n cap L :=
  h.chg (Chg.setCell u) (fun b _ _ e => by omega)
theorem OwnSS.reads {w : World} {lo hi : Nat} {ao : Option Addr} {n cap : Nat} {L : List (List Int)} (h : OwnSS w lo hi ao n cap L) : IntSS w ao n cap L := by
  obtain ⟨h1, h2, h3, h4⟩ := h
  refine ⟨h1, h2, h3, fun j hj => ?_, fun e => ?_⟩
  · rcases h4 with h4 | ⟨b, f, hd, rfl, r⟩
    · omega
    · refine ⟨b, 0, _, _, _, rfl, ?_, (r.own j hj).ints⟩
      rw [Nat.zero_add, r.row.cell (by omega), r.heads j hj]
  · rcases h4 with h4 | ⟨b, f, hd, rfl, r⟩
    · exact h4.2 e
    · cases e

def marksSS (x : Int) (L : List (List Int)) : List (List Int) := (List.range L.length).map (fun (j : Nat) => marks (x + (sumTo L j : Nat)) (L[j]?.getD []).length)
theorem marksSS_length (x : Int) (L : List (List Int)) : (marksSS x L).length = L.length := by simp [marksSS]
theorem marksSS_get (x : Int) (L : List (List Int)) (j : Nat) (h : j < L.length) : (marksSS x L)[j]?.getD [] = marks (x + (sumTo L j : Nat)) (L[j]?.getD []).length := by simp [marksSS, h]
end Go.Proofs.Ytchnnbkaiagpgaa
