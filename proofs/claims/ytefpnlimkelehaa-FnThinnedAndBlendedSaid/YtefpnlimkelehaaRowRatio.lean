/- Slices of Ratio: how they read, rows of the call's own, and the laws' helpers over them. -/
import Derived.Test.YtefpnlimkelehaaHelp
import Derived.Deep.RegionHeld3
import Derived.Deep.SlicePairs
namespace Go.Proofs.Ytefpnlimkelehaa
open Go.RowKit

def flatRatio (l : List (Int × Int)) : List Value := l.flatMap fun p => [.int .i64 (p.1), .int .i64 (p.2)]
theorem flatRatio_append (l m : List (Int × Int)) : flatRatio (l ++ m) = flatRatio l ++ flatRatio m := by simp [flatRatio]
theorem flatRatio_length (l : List (Int × Int)) : (flatRatio l).length = l.length * 2 := by
  induction l with
  | nil => rfl
  | cons p l ih => simp only [flatRatio, List.flatMap_cons, List.length_append, List.length_cons] at *; simp at *; omega
theorem flatRatio_get (l : List (Int × Int)) (j : Nat) (hj : j < l.length) : (flatRatio l)[j * 2]? = some (.int .i64 ((l[j]?.getD (0, 0)).1)) ∧ (flatRatio l)[j * 2 + 1]? = some (.int .i64 ((l[j]?.getD (0, 0)).2)) := by
  induction l generalizing j with
  | nil => simp at hj
  | cons p l ih =>
    cases j with
    | zero => exact ⟨rfl, rfl⟩
    | succ j =>
      have := ih j (by simpa using hj)
      have e : (j + 1) * 2 = j * 2 + 1 + 1 := by omega
      rw [e]
      simpa [flatRatio] using this

/-- A slice of n of them, capacity cap, reads as l. -/
def Ratios (w : World) (ao : Option Addr) (n cap : Nat) (l : List (Int × Int)) : Prop :=
  n = l.length ∧ n ≤ cap ∧ n ≤ 9223372036854775807 ∧ (∀ j, j < n → ∃ b o, ao = some ⟨b, o, none⟩ ∧ w.cell? ⟨b, o + j * 2, none⟩ = some (.int .i64 ((l[j]?.getD (0, 0)).1)) ∧ w.cell? ⟨b, o + j * 2 + 1, none⟩ = some (.int .i64 ((l[j]?.getD (0, 0)).2))) ∧ (ao = none → cap = 0)
theorem Ratios.new {w w' : World} {ao : Option Addr} {n cap : Nat} {l : List (Int × Int)} (h : Ratios w ao n cap l) (k : New w w') : Ratios w' ao n cap l := by
  obtain ⟨h1, h2, h3, h4, h5⟩ := h
  refine ⟨h1, h2, h3, fun j hj => ?_, h5⟩
  obtain ⟨b, o, e, c0, c1⟩ := h4 j hj
  exact ⟨b, o, e, k.cell c0, k.cell c1⟩
theorem Ratios.len {w : World} {ao : Option Addr} {n cap : Nat} {l : List (Int × Int)} (h : Ratios w ao n cap l) : n = l.length := h.1
theorem Ratios.nil (w : World) : Ratios w none 0 0 [] := ⟨rfl, Nat.le_refl _, by omega, fun j hj => absurd hj (by omega), fun _ => rfl⟩

/-- A slice of them in a row of its own. -/
def OwnRatio (w : World) (lo hi : Nat) (ao : Option Addr) (n cap : Nat) (l : List (Int × Int)) : Prop :=
  n = l.length ∧ n ≤ cap ∧ n ≤ 9223372036854775807 ∧ ((n = 0 ∧ (ao = none → cap = 0)) ∨ ∃ b f, ao = some ⟨b, 0, none⟩ ∧ lo ≤ b ∧ b < hi ∧ w.rowIs b 27 (cap * 2) f ∧
    ∀ j, j < n → f (j * 2) = .int .i64 ((l[j]?.getD (0, 0)).1) ∧ f (j * 2 + 1) = .int .i64 ((l[j]?.getD (0, 0)).2))
theorem OwnRatio.reads {w : World} {lo hi : Nat} {ao : Option Addr} {n cap : Nat} {l : List (Int × Int)} (h : OwnRatio w lo hi ao n cap l) : Ratios w ao n cap l := by
  obtain ⟨h1, h2, h3, h4⟩ := h
  refine ⟨h1, h2, h3, fun j hj => ?_, fun e => ?_⟩
  · rcases h4 with h4 | ⟨b, f, rfl, _, _, hr, hf⟩
    · omega
    · obtain ⟨g0, g1⟩ := hf j hj
      refine ⟨b, 0, rfl, ?_, ?_⟩
      · have := hr.cell (i := j * 2) (by omega)
        rw [Nat.zero_add, this, g0]
      · have := hr.cell (i := j * 2 + 1) (by omega)
        rw [Nat.zero_add, this, g1]
  · rcases h4 with h4 | ⟨b, f, rfl, _, _, hr, hf⟩
    · exact h4.2 e
    · cases e
theorem OwnRatio.turned {w w' : World} {lo hi : Nat} {ao : Option Addr} {n cap : Nat} {l : List (Int × Int)} (h : OwnRatio w lo hi ao n cap l)
    (k : ∀ b, n ≠ 0 → blkOf ao = some b → b < w.heap.size → w'.heap[b]? = w.heap[b]?) : OwnRatio w' lo hi ao n cap l := by
  obtain ⟨h1, h2, h3, h4⟩ := h
  refine ⟨h1, h2, h3, ?_⟩
  rcases h4 with h4 | ⟨b, f, rfl, hl, hh, hr, hf⟩
  · exact .inl h4
  · by_cases h0 : n = 0
    · exact .inl ⟨h0, fun e => by cases e⟩
    · exact .inr ⟨b, f, rfl, hl, hh, hr.of_block (k b h0 rfl hr.lt), hf⟩
theorem OwnRatio.new {w w' : World} {lo hi : Nat} {ao : Option Addr} {n cap : Nat} {l : List (Int × Int)} (h : OwnRatio w lo hi ao n cap l) (k : New w w') : OwnRatio w' lo hi ao n cap l :=
  h.turned fun b _ _ hb => k.block b hb
theorem OwnRatio.mono {w : World} {lo hi lo' hi' : Nat} {ao : Option Addr} {n cap : Nat} {l : List (Int × Int)} (h : OwnRatio w lo hi ao n cap l) (h1 : lo' ≤ lo) (h2 : hi ≤ hi') : OwnRatio w lo' hi' ao n cap l := by
  obtain ⟨a, b, c, d⟩ := h
  refine ⟨a, b, c, ?_⟩
  rcases d with d | ⟨b, f, e, hl, hh, r⟩
  · exact .inl d
  · exact .inr ⟨b, f, e, by omega, by omega, r⟩
theorem OwnRatio.bounds {w : World} {lo hi : Nat} {ao : Option Addr} {n cap : Nat} {l : List (Int × Int)} (h : OwnRatio w lo hi ao n cap l) (hn : n ≠ 0) {b : Nat} (hb : blkOf ao = some b) : lo ≤ b ∧ b < hi := by
  rcases h.2.2.2 with d | ⟨b', f, rfl, hl, hh, r⟩
  · exact absurd d.1 hn
  · simp [blkOf] at hb; omega
theorem OwnRatio.chg {P : Nat → Prop} {w w' : World} {lo hi : Nat} {ao : Option Addr} {n cap : Nat} {l : List (Int × Int)} (h : OwnRatio w lo hi ao n cap l) (k : Chg P w w') (hP : ∀ b, lo ≤ b → b < hi → ¬ P b) : OwnRatio w' lo hi ao n cap l :=
  h.turned fun b hn hb hlt => k.block b hlt (hP b (h.bounds hn hb).1 (h.bounds hn hb).2)
theorem OwnRatio.setCell {w : World} {lo hi : Nat} {ao : Option Addr} {n cap : Nat} {l : List (Int × Int)} (h : OwnRatio w lo hi ao n cap l) {p : Addr} (hp : p.block < lo ∨ hi ≤ p.block) (u : Value) : OwnRatio (w.setCell p u) lo hi ao n cap l :=
  h.chg (Chg.setCell u) (fun b _ _ e => by omega)
theorem OwnRatio.nil (w : World) (lo hi : Nat) : OwnRatio w lo hi none 0 0 [] := ⟨rfl, Nat.le_refl _, by omega, .inl ⟨rfl, fun _ => rfl⟩⟩
theorem OwnRatio.of_row {w : World} {base : Nat} {v : Value} {n : Nat} {l : List (Int × Int)} (h : w.ownsRow base 27 2 v n (flatRatio l)) :
    ∃ ao cap, v = .slice ao n cap ∧ OwnRatio w base w.heap.size ao n cap l := by
  obtain ⟨hl, h⟩ := h
  rw [flatRatio_length] at hl
  have hlen : n = l.length := by omega
  rcases h with ⟨rfl, rfl⟩ | ⟨g, cap, cur, rfl, hb, hh, hn, hm, hs, ht⟩
  · exact ⟨none, 0, rfl, hlen, Nat.le_refl _, by omega, .inl ⟨rfl, fun _ => rfl⟩⟩
  · have at_ : ∀ i v, i < n * 2 → (flatRatio l)[i]? = some v → cur[i]? = some v := fun i v hi hv => by
      rw [← ht, List.getElem?_take, if_pos hi] at hv
      simpa using hv
    refine ⟨_, cap, rfl, hlen, hn, by unfold maxLen at hm; omega, .inr ⟨g, fun j => cur[j]?.getD undef, rfl, hb, (Array.getElem?_eq_some_iff.1 hh).1, ⟨cur, hh, by omega, fun i hi => ?_⟩, fun j hj => ?_⟩⟩
    · simp [Array.getElem?_eq_getElem (show i < cur.size by omega)]
    · obtain ⟨g0, g1⟩ := flatRatio_get l j (by omega)
      have e0 := at_ (j * 2) _ (by omega) g0
      have e1 := at_ (j * 2 + 1) _ (by omega) g1
      simp [e0, e1]

def marksRatio (x : Int) (n : Nat) : List (Int × Int) := (List.range n).map (fun (j : Nat) => (x + 2 * (j : Int), x + 2 * (j : Int) + 1))
theorem marksRatio_length (x : Int) (n : Nat) : (marksRatio x n).length = n := by simp [marksRatio]
theorem marksRatio_get (x : Int) (n j : Nat) (h : j < n) : (marksRatio x n)[j]?.getD (0, 0) = (x + 2 * (j : Int), x + 2 * (j : Int) + 1) := by simp [marksRatio, h]

theorem Try.infoRowRatio : (Try.prog.info? 27).map (fun i => (i.zero, i.size, i.bytes)) = some (some (.agg #[.int .i64 0, .int .i64 0]), 2, 16) := by kernel_rfl

end Go.Proofs.Ytefpnlimkelehaa
