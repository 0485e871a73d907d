/- Slices of Level: how they read, rows of the call's own, and the laws' helpers over them. -/
import Derived.Test.YtfhpmihjfojbnaaHelp
import Derived.Deep.RegionHeld3
import Derived.Deep.SlicePairs
namespace Go.Proofs.Ytfhpmihjfojbnaa
open Go.RowKit

def flatLevel (l : List (Int × Bool)) : List Value := l.flatMap fun p => [.int .i64 (p.1), .bool (p.2)]
theorem flatLevel_append (l m : List (Int × Bool)) : flatLevel (l ++ m) = flatLevel l ++ flatLevel m := by simp [flatLevel]
theorem flatLevel_length (l : List (Int × Bool)) : (flatLevel l).length = l.length * 2 := by
  induction l with
  | nil => rfl
  | cons p l ih => simp only [flatLevel, List.flatMap_cons, List.length_append, List.length_cons] at *; simp at *; omega
theorem flatLevel_get (l : List (Int × Bool)) (j : Nat) (hj : j < l.length) : (flatLevel l)[j * 2]? = some (.int .i64 ((l[j]?.getD (0, false)).1)) ∧ (flatLevel l)[j * 2 + 1]? = some (.bool ((l[j]?.getD (0, false)).2)) := by
  induction l generalizing j with
  | nil => simp at hj
  | cons p l ih =>
    cases j with
    | zero => exact ⟨rfl, rfl⟩
    | succ j =>
      have := ih j (by simpa using hj)
      have e : (j + 1) * 2 = j * 2 + 1 + 1 := by omega
      rw [e]
      simpa [flatLevel] using this

/-- A slice of n of them, capacity cap, reads as l. -/
def Levels (w : World) (ao : Option Addr) (n cap : Nat) (l : List (Int × Bool)) : Prop :=
  n = l.length ∧ n ≤ cap ∧ n ≤ 9223372036854775807 ∧ (∀ j, j < n → ∃ b o, ao = some ⟨b, o, none⟩ ∧ w.cell? ⟨b, o + j * 2, none⟩ = some (.int .i64 ((l[j]?.getD (0, false)).1)) ∧ w.cell? ⟨b, o + j * 2 + 1, none⟩ = some (.bool ((l[j]?.getD (0, false)).2))) ∧ (ao = none → cap = 0)
theorem Levels.new {w w' : World} {ao : Option Addr} {n cap : Nat} {l : List (Int × Bool)} (h : Levels w ao n cap l) (k : New w w') : Levels w' ao n cap l := by
  obtain ⟨h1, h2, h3, h4, h5⟩ := h
  refine ⟨h1, h2, h3, fun j hj => ?_, h5⟩
  obtain ⟨b, o, e, c0, c1⟩ := h4 j hj
  exact ⟨b, o, e, k.cell c0, k.cell c1⟩
theorem Levels.len {w : World} {ao : Option Addr} {n cap : Nat} {l : List (Int × Bool)} (h : Levels w ao n cap l) : n = l.length := h.1
theorem Levels.nil (w : World) : Levels w none 0 0 [] := ⟨rfl, Nat.le_refl _, by omega, fun j hj => absurd hj (by omega), fun _ => rfl⟩

/-- A slice of them in a row of its own. -/
def OwnLevel (w : World) (lo hi : Nat) (ao : Option Addr) (n cap : Nat) (l : List (Int × Bool)) : Prop :=
  n = l.length ∧ n ≤ cap ∧ n ≤ 9223372036854775807 ∧ ((n = 0 ∧ (ao = none → cap = 0)) ∨ ∃ b f, ao = some ⟨b, 0, none⟩ ∧ lo ≤ b ∧ b < hi ∧ w.rowIs b 27 (cap * 2) f ∧
    ∀ j, j < n → f (j * 2) = .int .i64 ((l[j]?.getD (0, false)).1) ∧ f (j * 2 + 1) = .bool ((l[j]?.getD (0, false)).2))
theorem OwnLevel.reads {w : World} {lo hi : Nat} {ao : Option Addr} {n cap : Nat} {l : List (Int × Bool)} (h : OwnLevel w lo hi ao n cap l) : Levels w ao n cap l := by
  obtain ⟨h1, h2, h3, h4⟩ := h
  refine ⟨h1, h2, h3, fun j hj => ?_, fun e => ?_⟩
  · rcases h4 with h4 | ⟨b, f, rfl, _, _, hr, hf⟩
    · omega
    · obtain ⟨g0, g1⟩ := hf j hj
      refine ⟨b, 0, rfl, ?_, ?_⟩
      · have := hr.cell (i := j * 2) (by omega)
        rw [Nat.zero_add, this, g0]
      · have := hr.cell (i := j * 2 + 1) (by omega)
        rw [Nat.zero_add, this, g1]
  · rcases h4 with h4 | ⟨b, f, rfl, _, _, hr, hf⟩
    · exact h4.2 e
    · cases e
theorem OwnLevel.turned {w w' : World} {lo hi : Nat} {ao : Option Addr} {n cap : Nat} {l : List (Int × Bool)} (h : OwnLevel w lo hi ao n cap l)
    (k : ∀ b, n ≠ 0 → blkOf ao = some b → b < w.heap.size → w'.heap[b]? = w.heap[b]?) : OwnLevel w' lo hi ao n cap l := by
  obtain ⟨h1, h2, h3, h4⟩ := h
  refine ⟨h1, h2, h3, ?_⟩
  rcases h4 with h4 | ⟨b, f, rfl, hl, hh, hr, hf⟩
  · exact .inl h4
  · by_cases h0 : n = 0
    · exact .inl ⟨h0, fun e => by cases e⟩
    · exact .inr ⟨b, f, rfl, hl, hh, hr.of_block (k b h0 rfl hr.lt), hf⟩
theorem OwnLevel.new {w w' : World} {lo hi : Nat} {ao : Option Addr} {n cap : Nat} {l : List (Int × Bool)} (h : OwnLevel w lo hi ao n cap l) (k : New w w') : OwnLevel w' lo hi ao n cap l :=
  h.turned fun b _ _ hb => k.block b hb
theorem OwnLevel.mono {w : World} {lo hi lo' hi' : Nat} {ao : Option Addr} {n cap : Nat} {l : List (Int × Bool)} (h : OwnLevel w lo hi ao n cap l) (h1 : lo' ≤ lo) (h2 : hi ≤ hi') : OwnLevel w lo' hi' ao n cap l := by
  obtain ⟨a, b, c, d⟩ := h
  refine ⟨a, b, c, ?_⟩
  rcases d with d | ⟨b, f, e, hl, hh, r⟩
  · exact .inl d
  · exact .inr ⟨b, f, e, by omega, by omega, r⟩
theorem OwnLevel.bounds {w : World} {lo hi : Nat} {ao : Option Addr} {n cap : Nat} {l : List (Int × Bool)} (h : OwnLevel w lo hi ao n cap l) (hn : n ≠ 0) {b : Nat} (hb : blkOf ao = some b) : lo ≤ b ∧ b < hi := by
  rcases h.2.2.2 with d | ⟨b', f, rfl, hl, hh, r⟩
  · exact absurd d.1 hn
  · simp [blkOf] at hb; omega
theorem OwnLevel.chg {P : Nat → Prop} {w w' : World} {lo hi : Nat} {ao : Option Addr} {n cap : Nat} {l : List (Int × Bool)} (h : OwnLevel w lo hi ao n cap l) (k : Chg P w w') (hP : ∀ b, lo ≤ b → b < hi → ¬ P b) : OwnLevel w' lo hi ao n cap l :=
  h.turned fun b hn hb hlt => k.block b hlt (hP b (h.bounds hn hb).1 (h.bounds hn hb).2)
theorem OwnLevel.setCell {w : World} {lo hi : Nat} {ao : Option Addr} {n cap : Nat} {l : List (Int × Bool)} (h : OwnLevel w lo hi ao n cap l) {p : Addr} (hp : p.block < lo ∨ hi ≤ p.block) (u : Value) : OwnLevel (w.setCell p u) lo hi ao n cap l :=
  h.chg (Chg.setCell u) (fun b _ _ e => by omega)
theorem OwnLevel.nil (w : World) (lo hi : Nat) : OwnLevel w lo hi none 0 0 [] := ⟨rfl, Nat.le_refl _, by omega, .inl ⟨rfl, fun _ => rfl⟩⟩
theorem OwnLevel.of_row {w : World} {base : Nat} {v : Value} {n : Nat} {l : List (Int × Bool)} (h : w.ownsRow base 27 2 v n (flatLevel l)) :
    ∃ ao cap, v = .slice ao n cap ∧ OwnLevel w base w.heap.size ao n cap l := by
  obtain ⟨hl, h⟩ := h
  rw [flatLevel_length] at hl
  have hlen : n = l.length := by omega
  rcases h with ⟨rfl, rfl⟩ | ⟨g, cap, cur, rfl, hb, hh, hn, hm, hs, ht⟩
  · exact ⟨none, 0, rfl, hlen, Nat.le_refl _, by omega, .inl ⟨rfl, fun _ => rfl⟩⟩
  · have at_ : ∀ i v, i < n * 2 → (flatLevel l)[i]? = some v → cur[i]? = some v := fun i v hi hv => by
      rw [← ht, List.getElem?_take, if_pos hi] at hv
      simpa using hv
    refine ⟨_, cap, rfl, hlen, hn, by unfold maxLen at hm; omega, .inr ⟨g, fun j => cur[j]?.getD undef, rfl, hb, (Array.getElem?_eq_some_iff.1 hh).1, ⟨cur, hh, by omega, fun i hi => ?_⟩, fun j hj => ?_⟩⟩
    · simp [Array.getElem?_eq_getElem (show i < cur.size by omega)]
    · obtain ⟨g0, g1⟩ := flatLevel_get l j (by omega)
      have e0 := at_ (j * 2) _ (by omega) g0
      have e1 := at_ (j * 2 + 1) _ (by omega) g1
      simp [e0, e1]

def marksLevel (x : Int) (n : Nat) : List (Int × Bool) := (List.range n).map (fun (j : Nat) => (x + 2 * (j : Int), (x + 2 * (j : Int) + 1) % 3 == 0))
theorem marksLevel_length (x : Int) (n : Nat) : (marksLevel x n).length = n := by simp [marksLevel]
theorem marksLevel_get (x : Int) (n j : Nat) (h : j < n) : (marksLevel x n)[j]?.getD (0, false) = (x + 2 * (j : Int), (x + 2 * (j : Int) + 1) % 3 == 0) := by simp [marksLevel, h]

theorem Try.infoRowLevel : (Try.prog.info? 27).map (fun i => (i.zero, i.size, i.bytes)) = some (some (.agg #[.int .i64 0, .bool false]), 2, 16) := by kernel_rfl

theorem run_makeLevel (hS : Try.prog.underlying 33 = some (.slice 27)) {n : Nat} (hn : n ≤ 1048576) (w : World) :
    (Instr.makeSlice 33 (.int .i64 (n : Int)) (.int .i64 (n : Int))).run Try.prog w = .ok (.slice (some ⟨w.heap.size, 0, none⟩) n n) (w.alloc (.cells (madeCells #[.int .i64 0, .bool false] (n * 2)) 27)) := by
  obtain ⟨i, hi, hzz⟩ := Option.map_eq_some_iff.1 Try.infoRowLevel
  simp only [Prod.mk.injEq] at hzz
  obtain ⟨hz, hs, hb⟩ := hzz
  have hr := run_make (P := Try.prog) w 33 27 i _ hS hi hz .i64 .i64 n n (by omega) (Int.le_refl _) (by rw [hb]; omega) (by omega)
  rw [hs] at hr
  simp only [Int.toNat_natCast] at hr
  exact hr
theorem rowIs_madeLevel (w : World) (n : Nat) (t : TypeId) : ∃ f, (w.alloc (.cells (madeCells #[.int .i64 0, .bool false] (n * 2)) t)).rowIs w.heap.size t (n * 2) f :=
  ⟨fun j => (madeCells #[.int .i64 0, .bool false] (n * 2))[j]?.getD undef, _, heap_alloc_new _ _, size_madeCells _ _, fun i hi => by
    simp [Array.getElem?_eq_getElem (show i < (madeCells #[.int .i64 0, .bool false] (n * 2)).size by rw [size_madeCells]; exact hi)]⟩

end Go.Proofs.Ytfhpmihjfojbnaa
