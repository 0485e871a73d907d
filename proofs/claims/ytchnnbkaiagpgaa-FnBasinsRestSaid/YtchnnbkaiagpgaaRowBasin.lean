/- Slices of Basin: how they read, rows of the call's own, and the laws' helpers over them. -/
import Derived.Test.YtchnnbkaiagpgaaHelp
import Derived.Deep.RegionHeld3
import Derived.Deep.SlicePairs
namespace Go.Proofs.Ytchnnbkaiagpgaa
open Go.RowKit

def flatBasin (l : List (Int × Int × Int)) : List Value := l.flatMap fun p => [.int .i64 (p.1), .int .i64 (p.2.1), .int .i64 (p.2.2)]
theorem flatBasin_append (l m : List (Int × Int × Int)) : flatBasin (l ++ m) = flatBasin l ++ flatBasin m := by simp [flatBasin]
theorem flatBasin_length (l : List (Int × Int × Int)) : (flatBasin l).length = l.length * 3 := by
  induction l with
  | nil => rfl
  | cons p l ih => simp only [flatBasin, List.flatMap_cons, List.length_append, List.length_cons] at *; simp at *; omega
theorem flatBasin_get (l : List (Int × Int × Int)) (j : Nat) (hj : j < l.length) : (flatBasin l)[j * 3]? = some (.int .i64 ((l[j]?.getD (0, 0, 0)).1)) ∧ (flatBasin l)[j * 3 + 1]? = some (.int .i64 ((l[j]?.getD (0, 0, 0)).2.1)) ∧ (flatBasin l)[j * 3 + 2]? = some (.int .i64 ((l[j]?.getD (0, 0, 0)).2.2)) := by
  induction l generalizing j with
  | nil => simp at hj
  | cons p l ih =>
    cases j with
    | zero => exact ⟨rfl, rfl, rfl⟩
    | succ j =>
      have := ih j (by simpa using hj)
      have e : (j + 1) * 3 = j * 3 + 1 + 1 + 1 := by omega
      rw [e]
      simpa [flatBasin] using this

/-- A slice of n of them, capacity cap, reads as l. -/
def Basins (w : World) (ao : Option Addr) (n cap : Nat) (l : List (Int × Int × Int)) : Prop :=
  n = l.length ∧ n ≤ cap ∧ n ≤ 9223372036854775807 ∧ (∀ j, j < n → ∃ b o, ao = some ⟨b, o, none⟩ ∧ w.cell? ⟨b, o + j * 3, none⟩ = some (.int .i64 ((l[j]?.getD (0, 0, 0)).1)) ∧ w.cell? ⟨b, o + j * 3 + 1, none⟩ = some (.int .i64 ((l[j]?.getD (0, 0, 0)).2.1)) ∧ w.cell? ⟨b, o + j * 3 + 2, none⟩ = some (.int .i64 ((l[j]?.getD (0, 0, 0)).2.2))) ∧ (ao = none → cap = 0)
theorem Basins.new {w w' : World} {ao : Option Addr} {n cap : Nat} {l : List (Int × Int × Int)} (h : Basins w ao n cap l) (k : New w w') : Basins w' ao n cap l := by
  obtain ⟨h1, h2, h3, h4, h5⟩ := h
  refine ⟨h1, h2, h3, fun j hj => ?_, h5⟩
  obtain ⟨b, o, e, c0, c1, c2⟩ := h4 j hj
  exact ⟨b, o, e, k.cell c0, k.cell c1, k.cell c2⟩
theorem Basins.len {w : World} {ao : Option Addr} {n cap : Nat} {l : List (Int × Int × Int)} (h : Basins w ao n cap l) : n = l.length := h.1
theorem Basins.nil (w : World) : Basins w none 0 0 [] := ⟨rfl, Nat.le_refl _, by omega, fun j hj => absurd hj (by omega), fun _ => rfl⟩

/-- A slice of them in a row of its own. -/
def OwnBasin (w : World) (lo hi : Nat) (ao : Option Addr) (n cap : Nat) (l : List (Int × Int × Int)) : Prop :=
  n = l.length ∧ n ≤ cap ∧ n ≤ 9223372036854775807 ∧ ((n = 0 ∧ (ao = none → cap = 0)) ∨ ∃ b f, ao = some ⟨b, 0, none⟩ ∧ lo ≤ b ∧ b < hi ∧ w.rowIs b 48 (cap * 3) f ∧
    ∀ j, j < n → f (j * 3) = .int .i64 ((l[j]?.getD (0, 0, 0)).1) ∧ f (j * 3 + 1) = .int .i64 ((l[j]?.getD (0, 0, 0)).2.1) ∧ f (j * 3 + 2) = .int .i64 ((l[j]?.getD (0, 0, 0)).2.2))
theorem OwnBasin.reads {w : World} {lo hi : Nat} {ao : Option Addr} {n cap : Nat} {l : List (Int × Int × Int)} (h : OwnBasin w lo hi ao n cap l) : Basins w ao n cap l := by
  obtain ⟨h1, h2, h3, h4⟩ := h
  refine ⟨h1, h2, h3, fun j hj => ?_, fun e => ?_⟩
  · rcases h4 with h4 | ⟨b, f, rfl, _, _, hr, hf⟩
    · omega
    · obtain ⟨g0, g1, g2⟩ := hf j hj
      refine ⟨b, 0, rfl, ?_, ?_, ?_⟩
      · have := hr.cell (i := j * 3) (by omega)
        rw [Nat.zero_add, this, g0]
      · have := hr.cell (i := j * 3 + 1) (by omega)
        rw [Nat.zero_add, this, g1]
      · have := hr.cell (i := j * 3 + 2) (by omega)
        rw [Nat.zero_add, this, g2]
  · rcases h4 with h4 | ⟨b, f, rfl, _, _, hr, hf⟩
    · exact h4.2 e
    · cases e
theorem OwnBasin.turned {w w' : World} {lo hi : Nat} {ao : Option Addr} {n cap : Nat} {l : List (Int × Int × Int)} (h : OwnBasin w lo hi ao n cap l)
    (k : ∀ b, n ≠ 0 → blkOf ao = some b → b < w.heap.size → w'.heap[b]? = w.heap[b]?) : OwnBasin w' lo hi ao n cap l := by
  obtain ⟨h1, h2, h3, h4⟩ := h
  refine ⟨h1, h2, h3, ?_⟩
  rcases h4 with h4 | ⟨b, f, rfl, hl, hh, hr, hf⟩
  · exact .inl h4
  · by_cases h0 : n = 0
    · exact .inl ⟨h0, fun e => by cases e⟩
    · exact .inr ⟨b, f, rfl, hl, hh, hr.of_block (k b h0 rfl hr.lt), hf⟩
theorem OwnBasin.new {w w' : World} {lo hi : Nat} {ao : Option Addr} {n cap : Nat} {l : List (Int × Int × Int)} (h : OwnBasin w lo hi ao n cap l) (k : New w w') : OwnBasin w' lo hi ao n cap l :=
  h.turned fun b _ _ hb => k.block b hb
theorem OwnBasin.mono {w : World} {lo hi lo' hi' : Nat} {ao : Option Addr} {n cap : Nat} {l : List (Int × Int × Int)} (h : OwnBasin w lo hi ao n cap l) (h1 : lo' ≤ lo) (h2 : hi ≤ hi') : OwnBasin w lo' hi' ao n cap l := by
  obtain ⟨a, b, c, d⟩ := h
  refine ⟨a, b, c, ?_⟩
  rcases d with d | ⟨b, f, e, hl, hh, r⟩
  · exact .inl d
  · exact .inr ⟨b, f, e, by omega, by omega, r⟩
theorem OwnBasin.bounds {w : World} {lo hi : Nat} {ao : Option Addr} {n cap : Nat} {l : List (Int × Int × Int)} (h : OwnBasin w lo hi ao n cap l) (hn : n ≠ 0) {b : Nat} (hb : blkOf ao = some b) : lo ≤ b ∧ b < hi := by
  rcases h.2.2.2 with d | ⟨b', f, rfl, hl, hh, r⟩
  · exact absurd d.1 hn
  · simp [blkOf] at hb; omega
theorem OwnBasin.chg {P : Nat → Prop} {w w' : World} {lo hi : Nat} {ao : Option Addr} {n cap : Nat} {l : List (Int × Int × Int)} (h : OwnBasin w lo hi ao n cap l) (k : Chg P w w') (hP : ∀ b, lo ≤ b → b < hi → ¬ P b) : OwnBasin w' lo hi ao n cap l :=
  h.turned fun b hn hb hlt => k.block b hlt (hP b (h.bounds hn hb).1 (h.bounds hn hb).2)
theorem OwnBasin.setCell {w : World} {lo hi : Nat} {ao : Option Addr} {n cap : Nat} {l : List (Int × Int × Int)} (h : OwnBasin w lo hi ao n cap l) {p : Addr} (hp : p.block < lo ∨ hi ≤ p.block) (u : Value) : OwnBasin (w.setCell p u) lo hi ao n cap l :=
  h.chg (Chg.setCell u) (fun b _ _ e => by omega)
theorem OwnBasin.nil (w : World) (lo hi : Nat) : OwnBasin w lo hi none 0 0 [] := ⟨rfl, Nat.le_refl _, by omega, .inl ⟨rfl, fun _ => rfl⟩⟩
theorem OwnBasin.of_row {w : World} {base : Nat} {v : Value} {n : Nat} {l : List (Int × Int × Int)} (h : w.ownsRow base 48 3 v n (flatBasin l)) :
    ∃ ao cap, v = .slice ao n cap ∧ OwnBasin w base w.heap.size ao n cap l := by
  obtain ⟨hl, h⟩ := h
  rw [flatBasin_length] at hl
  have hlen : n = l.length := by omega
  rcases h with ⟨rfl, rfl⟩ | ⟨g, cap, cur, rfl, hb, hh, hn, hm, hs, ht⟩
  · exact ⟨none, 0, rfl, hlen, Nat.le_refl _, by omega, .inl ⟨rfl, fun _ => rfl⟩⟩
  · have at_ : ∀ i v, i < n * 3 → (flatBasin l)[i]? = some v → cur[i]? = some v := fun i v hi hv => by
      rw [← ht, List.getElem?_take, if_pos hi] at hv
      simpa using hv
    refine ⟨_, cap, rfl, hlen, hn, by unfold maxLen at hm; omega, .inr ⟨g, fun j => cur[j]?.getD undef, rfl, hb, (Array.getElem?_eq_some_iff.1 hh).1, ⟨cur, hh, by omega, fun i hi => ?_⟩, fun j hj => ?_⟩⟩
    · simp [Array.getElem?_eq_getElem (show i < cur.size by omega)]
    · obtain ⟨g0, g1, g2⟩ := flatBasin_get l j (by omega)
      have e0 := at_ (j * 3) _ (by omega) g0
      have e1 := at_ (j * 3 + 1) _ (by omega) g1
      have e2 := at_ (j * 3 + 2) _ (by omega) g2
      simp [e0, e1, e2]

def marksBasin (x : Int) (n : Nat) : List (Int × Int × Int) := (List.range n).map (fun (j : Nat) => (x + 3 * (j : Int), x + 3 * (j : Int) + 1, x + 3 * (j : Int) + 1 + 1))
theorem marksBasin_length (x : Int) (n : Nat) : (marksBasin x n).length = n := by simp [marksBasin]
theorem marksBasin_get (x : Int) (n j : Nat) (h : j < n) : (marksBasin x n)[j]?.getD (0, 0, 0) = (x + 3 * (j : Int), x + 3 * (j : Int) + 1, x + 3 * (j : Int) + 1 + 1) := by simp [marksBasin, h]

theorem Try.infoRowBasin : (Try.prog.info? 48).map (fun i => (i.zero, i.size, i.bytes)) = some (some (.agg #[.int .i64 0, .int .i64 0, .int .i64 0]), 3, 24) := by kernel_rfl

theorem run_makeBasin (hS : Try.prog.underlying 24 = some (.slice 48)) {n : Nat} (hn : n ≤ 1048576) (w : World) :
    (Instr.makeSlice 24 (.int .i64 (n : Int)) (.int .i64 (n : Int))).run Try.prog w = .ok (.slice (some ⟨w.heap.size, 0, none⟩) n n) (w.alloc (.cells (madeCells #[.int .i64 0, .int .i64 0, .int .i64 0] (n * 3)) 48)) := by
  obtain ⟨i, hi, hzz⟩ := Option.map_eq_some_iff.1 Try.infoRowBasin
  simp only [Prod.mk.injEq] at hzz
  obtain ⟨hz, hs, hb⟩ := hzz
  have hr := run_make (P := Try.prog) w 24 48 i _ hS hi hz .i64 .i64 n n (by omega) (Int.le_refl _) (by rw [hb]; omega) (by omega)
  rw [hs] at hr
  simp only [Int.toNat_natCast] at hr
  exact hr
theorem rowIs_madeBasin (w : World) (n : Nat) (t : TypeId) : ∃ f, (w.alloc (.cells (madeCells #[.int .i64 0, .int .i64 0, .int .i64 0] (n * 3)) t)).rowIs w.heap.size t (n * 3) f :=
  ⟨fun j => (madeCells #[.int .i64 0, .int .i64 0, .int .i64 0] (n * 3))[j]?.getD undef, _, heap_alloc_new _ _, size_madeCells _ _, fun i hi => by
    simp [Array.getElem?_eq_getElem (show i < (madeCells #[.int .i64 0, .int .i64 0, .int .i64 0] (n * 3)).size by rw [size_madeCells]; exact hi)]⟩

end Go.Proofs.Ytchnnbkaiagpgaa
