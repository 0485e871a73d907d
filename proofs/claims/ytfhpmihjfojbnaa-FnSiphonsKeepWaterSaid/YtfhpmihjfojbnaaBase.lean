/- Plain words and lemmas: slices of integers as they lie in a world, and worlds that only grow. Nothing here speaks of the program. -/
import Derived.Test.YtfhpmihjfojbnaaRows
import Derived.WalkKit
import Derived.WalkSpells
import Derived.WalkLawsBesides
import Derived.BigQuiet
import Derived.Deep.QuietTactic
import Derived.Lib.Hide
import Derived.Deep.OwnRows
import Derived.WalkSmall
namespace Go.Proofs.Ytfhpmihjfojbnaa
open Go.RowKit

/-- A slice of n integers, capacity cap, reads as l. -/
def Ints (w : World) (ao : Option Addr) (n cap : Nat) (l : List Int) : Prop :=
  n = l.length ∧ n ≤ cap ∧ n ≤ 9223372036854775807 ∧ (∀ j, j < n → ∃ b o, ao = some ⟨b, o, none⟩ ∧ w.cell? ⟨b, o + j, none⟩ = some (.int .i64 (l[j]?.getD 0))) ∧ (ao = none → cap = 0)

/-- Nothing that was there has turned. -/
def New (w w' : World) : Prop := Below w.heap.size w w'

theorem New.refl (w : World) : New w w := Below.refl _ _
theorem New.trans {a b c : World} (h : New a b) (k : New b c) : New a c := Below.trans h (Below.mono k h.size)
theorem New.drew {a b : World} (h : New a b) : New a b.drew := Below.drew h
theorem New.drewN {a b : World} (h : New a b) (q : Nat) : New a (b.drewN q) := by
  induction q generalizing b with
  | zero => exact h
  | succ q ih => exact (ih h).drew
theorem New.alloc {a b : World} (h : New a b) (o : Obj) : New a (b.alloc o) := Below.alloc h h.size o
theorem New.setCell {a b : World} (h : New a b) {p : Addr} (hp : a.heap.size ≤ p.block) (u : Value) : New a (b.setCell p u) := Below.setCell h hp u
theorem bcell {W w1 : World} (hb : New W w1) : (∀ b o, b < W.heap.size → w1.cell? ⟨b, o, none⟩ = W.cell? ⟨b, o, none⟩) ∧ (∀ b o, b < W.heap.size → w1.frozen? ⟨b, o, none⟩ = W.frozen? ⟨b, o, none⟩) ∧ W.heap.size ≤ w1.heap.size :=
  ⟨fun b o h => Below.cell (p := ⟨b, o, none⟩) hb h, fun b o h => Below.frozen (p := ⟨b, o, none⟩) hb h, hb.size⟩
theorem New.frz {w w' : World} (h : New w w') {p : Addr} {v : Value} (hc : w.cell? p = some v) (hf : w.frozen? p = false) : w'.frozen? p = false :=
  (Below.frozen h (World.block_lt_of_cell? w p hc)).trans hf
theorem New.cell {w w' : World} (h : New w w') {p : Addr} {v : Value} (hc : w.cell? p = some v) : w'.cell? p = some v :=
  (Below.cell h (World.block_lt_of_cell? w p hc)).trans hc

theorem New.undrew {w w' : World} (h : New w.drew w') : New w w' := (New.refl w).drew.trans h
/-- A box of two cells, made ahead of a call, behind it. -/
theorem New.box {W W' : World} {x y : Value} {t : TypeId} (h : New (W.alloc (.cells #[x, y] t)) W') :
    W'.cell? ⟨W.heap.size, 0, none⟩ = some x ∧ W'.cell? ⟨W.heap.size, 1, none⟩ = some y ∧ W'.frozen? ⟨W.heap.size, 0, none⟩ = false ∧ W'.frozen? ⟨W.heap.size, 1, none⟩ = false ∧ W.heap.size < W'.heap.size :=
  ⟨h.cell (by simp), h.cell (by simp), h.frz (v := x) (by simp) (by simp), h.frz (v := y) (by simp) (by simp), by have := h.size; simp at this; omega⟩
theorem New.boxed {W W' : World} {p q : Addr} {x y : Value} (h : New W W') (c0 : W.cell? p = some x) (c1 : W.cell? q = some y) (f0 : W.frozen? p = false) (f1 : W.frozen? q = false) :
    W'.cell? p = some x ∧ W'.cell? q = some y ∧ W'.frozen? p = false ∧ W'.frozen? q = false :=
  ⟨h.cell c0, h.cell c1, h.frz c0 f0, h.frz c1 f1⟩
theorem World.cell_kept {w : World} {p : Addr} {v : Value} {o : Obj} (h : w.cell? p = some v) : (w.alloc o).cell? p = some v :=
  ((New.refl w).alloc o).cell h

theorem set_other {w : World} {a b : Addr} {v : Value} (h : a ≠ b) : (w.setCell a v).cell? b = w.cell? b := by apply World.cell?_setCell_other; exact h
theorem set_same {w : World} {a : Addr} {u v : Value} (h : w.cell? a = some u) : (w.setCell a v).cell? a = some v := by apply World.cell?_setCell_same; exact h
theorem World.cell_set {w : World} {p q : Addr} {v u : Value} (h : w.cell? p = some v) (hn : p.block ≠ q.block) : (w.setCell q u).cell? p = some v :=
  (World.cell?_of_block (Below.heap_setCell w q u p.block hn)).trans h

theorem Ints.new {w w' : World} {ao : Option Addr} {n cap : Nat} {l : List Int} (h : Ints w ao n cap l) (k : New w w') : Ints w' ao n cap l := by
  obtain ⟨h1, h2, h3, h4, h5⟩ := h
  refine ⟨h1, h2, h3, fun j hj => ?_, h5⟩
  obtain ⟨b, o, e, hc⟩ := h4 j hj
  exact ⟨b, o, e, k.cell hc⟩
theorem Ints.len {w : World} {ao : Option Addr} {n cap : Nat} {l : List Int} (h : Ints w ao n cap l) : n = l.length := h.1
/-- One element: its address, its cell, and that its block is there. -/
theorem Ints.at {w : World} {ao : Option Addr} {n cap : Nat} {l : List Int} (h : Ints w ao n cap l) {j : Nat} (hj : j < n) :
    ∃ b o, ao = some ⟨b, o, none⟩ ∧ w.cell? ⟨b, o + j, none⟩ = some (.int .i64 (l[j]?.getD 0)) ∧ b < w.heap.size := by
  obtain ⟨b, o, e, hc⟩ := h.2.2.2.1 j hj
  exact ⟨b, o, e, hc, World.block_lt_of_cell? w _ hc⟩
theorem Ints.nil (w : World) : Ints w none 0 0 [] := ⟨rfl, Nat.le_refl _, by omega, fun j hj => absurd hj (by omega), fun _ => rfl⟩

theorem ret_bool {a b : Bool} (h : a = b) : Ending.returned (.bool a) = .returned (.bool b) := by rw [h]
theorem ret_int {k : IntKind} {a b : Int} (h : a = b) : Ending.returned (.int k a) = .returned (.int k b) := by rw [h]

def inB (lo hi n : Int) : Bool := decide (lo ≤ n) && decide (n ≤ hi)
theorem inB_iff {lo hi n : Int} : inB lo hi n = true ↔ lo ≤ n ∧ n ≤ hi := by simp [inB]
theorem inB_false {lo hi n : Int} : inB lo hi n = false ↔ ¬ (lo ≤ n ∧ n ≤ hi) := by rw [← inB_iff]; simp

theorem ext_getD {l m : List Int} (h : l.length = m.length) (k : ∀ j, j < l.length → l[j]?.getD 0 = m[j]?.getD 0) : l = m := by
  apply List.ext_getElem h
  intro i h1 h2
  have := k i h1
  simpa [List.getElem?_eq_getElem h1, List.getElem?_eq_getElem h2] using this

theorem Try.infoInt : (Try.prog.info? 3).map (fun i => (i.zero, i.size, i.bytes)) = some (some (.int .i64 0), 1, 8) := by kernel_rfl

/-- What has turned lies in the blocks of which P speaks. -/
structure Chg (P : Nat → Prop) (w w' : World) : Prop where
  os : w'.os = w.os
  tape : w'.tape = w.tape
  output : w'.output = w.output
  size : w.heap.size ≤ w'.heap.size
  block : ∀ k, k < w.heap.size → ¬ P k → w'.heap[k]? = w.heap[k]?

theorem Chg.refl (P : Nat → Prop) (w : World) : Chg P w w := ⟨rfl, rfl, rfl, Nat.le_refl _, fun _ _ _ => rfl⟩
theorem Chg.of_new {P : Nat → Prop} {w w' : World} (h : New w w') : Chg P w w' := ⟨h.os, h.tape, h.output, h.size, fun k hk _ => h.block k hk⟩
theorem Chg.trans {P : Nat → Prop} {a b c : World} (h : Chg P a b) (k : Chg P b c) : Chg P a c :=
  ⟨k.os.trans h.os, k.tape.trans h.tape, k.output.trans h.output, Nat.le_trans h.size k.size, fun i hi hp => (k.block i (Nat.lt_of_lt_of_le hi h.size) hp).trans (h.block i hi hp)⟩
theorem Chg.mono {P Q : Nat → Prop} {w w' : World} (h : Chg P w w') (hpq : ∀ k, P k → Q k) : Chg Q w w' :=
  ⟨h.os, h.tape, h.output, h.size, fun k hk hq => h.block k hk (fun hp => hq (hpq k hp))⟩
theorem Chg.below {P : Nat → Prop} {B : Nat} {w0 w w' : World} (h : Below B w0 w) (k : Chg P w w') (hB : B ≤ w.heap.size) (hP : ∀ i, P i → B ≤ i) : Below B w0 w' :=
  h.trans ⟨k.os, k.tape, k.output, k.size, fun i hi => k.block i (by omega) (fun hp => by have := hP i hp; omega)⟩
theorem Chg.new {P : Nat → Prop} {w0 w w' : World} (h : New w0 w) (k : Chg P w w') (hP : ∀ i, P i → w0.heap.size ≤ i) : New w0 w' := Chg.below h k h.size hP
theorem Chg.cell {P : Nat → Prop} {w w' : World} (h : Chg P w w') {p : Addr} {v : Value} (hc : w.cell? p = some v) (hp : ¬ P p.block) : w'.cell? p = some v :=
  (World.cell?_of_block (h.block p.block (World.block_lt_of_cell? w p hc) hp)).trans hc

/-- The block at which a slice begins. -/
def blkOf (ao : Option Addr) : Option Nat := ao.map (·.block)

/-- A slice of integers in a row of its own, its block from lo on, below hi. -/
def Own (w : World) (lo hi : Nat) (ao : Option Addr) (n cap : Nat) (l : List Int) : Prop :=
  n = l.length ∧ n ≤ cap ∧ n ≤ 9223372036854775807 ∧ ((n = 0 ∧ (ao = none → cap = 0)) ∨ ∃ b f, ao = some ⟨b, 0, none⟩ ∧ lo ≤ b ∧ b < hi ∧ w.rowIs b 3 cap f ∧ ∀ j, j < n → f j = .int .i64 (l[j]?.getD 0))

theorem Own.ints {w : World} {lo hi : Nat} {ao : Option Addr} {n cap : Nat} {l : List Int} (h : Own w lo hi ao n cap l) : Ints w ao n cap l := by
  obtain ⟨h1, h2, h3, h4⟩ := h
  refine ⟨h1, h2, h3, fun j hj => ?_, fun e => ?_⟩
  · rcases h4 with h4 | ⟨b, f, rfl, _, _, hr, hf⟩
    · omega
    · refine ⟨b, 0, rfl, ?_⟩
      have := hr.cell (i := j) (by omega)
      rw [Nat.zero_add, this, hf j hj]
  · rcases h4 with h4 | ⟨b, f, rfl, _, _, hr, hf⟩
    · exact h4.2 e
    · cases e
theorem Own.turned {w w' : World} {lo hi : Nat} {ao : Option Addr} {n cap : Nat} {l : List Int} (h : Own w lo hi ao n cap l)
    (k : ∀ b, n ≠ 0 → blkOf ao = some b → b < w.heap.size → w'.heap[b]? = w.heap[b]?) : Own w' lo hi ao n cap l := by
  obtain ⟨h1, h2, h3, h4⟩ := h
  refine ⟨h1, h2, h3, ?_⟩
  rcases h4 with h4 | ⟨b, f, rfl, hl, hh, hr, hf⟩
  · exact .inl h4
  · by_cases h0 : n = 0
    · exact .inl ⟨h0, fun e => by cases e⟩
    · exact .inr ⟨b, f, rfl, hl, hh, hr.of_block (k b h0 rfl hr.lt), hf⟩
theorem Own.new {w w' : World} {lo hi : Nat} {ao : Option Addr} {n cap : Nat} {l : List Int} (h : Own w lo hi ao n cap l) (k : New w w') : Own w' lo hi ao n cap l :=
  h.turned fun b _ _ hb => k.block b hb
theorem Own.mono {w : World} {lo hi lo' hi' : Nat} {ao : Option Addr} {n cap : Nat} {l : List Int} (h : Own w lo hi ao n cap l) (h1 : lo' ≤ lo) (h2 : hi ≤ hi') : Own w lo' hi' ao n cap l := by
  obtain ⟨a, b, c, d⟩ := h
  refine ⟨a, b, c, ?_⟩
  rcases d with d | ⟨b, f, e, hl, hh, r⟩
  · exact .inl d
  · exact .inr ⟨b, f, e, by omega, by omega, r⟩
theorem Own.bounds {w : World} {lo hi : Nat} {ao : Option Addr} {n cap : Nat} {l : List Int} (h : Own w lo hi ao n cap l) (hn : n ≠ 0) {b : Nat} (hb : blkOf ao = some b) : lo ≤ b ∧ b < hi := by
  rcases h.2.2.2 with d | ⟨b', f, rfl, hl, hh, r⟩
  · exact absurd d.1 hn
  · simp [blkOf] at hb; omega
theorem Own.has {w : World} {lo hi : Nat} {ao : Option Addr} {n cap : Nat} {l : List Int} (h : Own w lo hi ao n cap l) (hn : n ≠ 0) (hb : blkOf ao = none) : False := by
  rcases h.2.2.2 with d | ⟨b', f, rfl, hl, hh, r⟩
  · exact hn d.1
  · simp [blkOf] at hb
theorem Own.lt {w : World} {lo hi : Nat} {ao : Option Addr} {n cap : Nat} {l : List Int} (h : Own w lo hi ao n cap l) (hn : n ≠ 0) {b : Nat} (hb : blkOf ao = some b) : b < w.heap.size := by
  rcases h.2.2.2 with d | ⟨b', f, rfl, hl, hh, r, _⟩
  · exact absurd d.1 hn
  · have := r.lt
    simp [blkOf] at hb; omega
theorem Own.chg {P : Nat → Prop} {w w' : World} {lo hi : Nat} {ao : Option Addr} {n cap : Nat} {l : List Int} (h : Own w lo hi ao n cap l) (k : Chg P w w') (hP : ∀ b, lo ≤ b → b < hi → ¬ P b) : Own w' lo hi ao n cap l :=
  h.turned fun b hn hb hlt => k.block b hlt (hP b (h.bounds hn hb).1 (h.bounds hn hb).2)
theorem Chg.setCell {w : World} {p : Addr} (u : Value) : Chg (fun b => b = p.block) w (w.setCell p u) :=
  ⟨rfl, rfl, rfl, by simp [World.setCell], fun k _ h => Below.heap_setCell _ _ _ _ h⟩
theorem Own.setCell {w : World} {lo hi : Nat} {ao : Option Addr} {n cap : Nat} {l : List Int} (h : Own w lo hi ao n cap l) {p : Addr} (hp : p.block < lo ∨ hi ≤ p.block) (u : Value) : Own (w.setCell p u) lo hi ao n cap l :=
  h.chg (Chg.setCell u) (fun b _ _ e => by omega)
theorem Own.nil (w : World) (lo hi : Nat) : Own w lo hi none 0 0 [] := ⟨rfl, Nat.le_refl _, by omega, .inl ⟨rfl, fun _ => rfl⟩⟩

theorem Own.zero {w w' : World} {lo hi : Nat} {ao : Option Addr} {cap : Nat} {l : List Int} (h : Own w lo hi ao 0 cap l) : Own w' lo hi ao 0 cap [] := by
  obtain ⟨a, b, c, d⟩ := h
  refine ⟨rfl, b, c, .inl ⟨rfl, ?_⟩⟩
  rcases d with d | ⟨b', f, rfl, _⟩
  · exact d.2
  · exact fun e => by cases e
/-- What an append of the call's own leaves. -/
theorem Own.of_row {w : World} {base : Nat} {v : Value} {n : Nat} {l : List Int} (h : w.ownsRow base 3 1 v n (l.map (Value.int .i64))) :
    ∃ ao cap, v = .slice ao n cap ∧ Own w base w.heap.size ao n cap l := by
  obtain ⟨hl, h⟩ := h
  have hlen : n = l.length := by simpa using hl.symm
  rcases h with ⟨rfl, rfl⟩ | ⟨g, cap, cur, rfl, hb, hh, hn, hm, hs, ht⟩
  · exact ⟨none, 0, rfl, hlen, Nat.le_refl _, by omega, .inl ⟨rfl, fun _ => rfl⟩⟩
  · refine ⟨_, cap, rfl, hlen, hn, by unfold maxLen at hm; omega, .inr ⟨g, fun j => cur[j]?.getD undef, rfl, hb, (Array.getElem?_eq_some_iff.1 hh).1, ⟨cur, hh, by omega, fun i hi => ?_⟩, fun j hj => ?_⟩⟩
    · simp [Array.getElem?_eq_getElem (show i < cur.size by omega)]
    · have e : (cur.toList.take (n * 1))[j]? = (l.map (Value.int .i64))[j]? := by rw [ht]
      rw [List.getElem?_take, if_pos (by omega)] at e
      have hj' : j < l.length := by omega
      have e' : cur[j]? = some (.int .i64 l[j]) := by simpa [hj'] using e
      simp [e', List.getElem?_eq_getElem hj']

theorem Own.other {w : World} {lo hi : Nat} {ao ao' : Option Addr} {cap cap' : Nat} (_h : Own w lo hi ao 0 cap []) (h : ao' = none → cap' = 0) : Own w lo hi ao' 0 cap' [] :=
  ⟨rfl, Nat.zero_le _, by omega, .inl ⟨rfl, h⟩⟩
/-- A slice as the source of an append. -/
theorem Ints.source {w : World} {ad : Addr} {n cap : Nat} {l : List Int} (h : Ints w (some ad) n cap l) : ∀ j u, (l.map (Value.int .i64))[j]? = some u → w.cell? (ad.add j) = some u := by
  intro j u hu
  have hj : j < l.length := by
    have := (List.getElem?_eq_some_iff.1 hu).1
    simpa using this
  obtain ⟨b, o, e, hc, _⟩ := h.at (j := j) (by have := h.len; omega)
  cases e
  have ha : (⟨b, o, none⟩ : Addr).add j = ⟨b, o + j, none⟩ := by unfold Addr.add; split <;> simp_all
  rw [ha, hc]
  rw [List.getElem?_map, List.getElem?_eq_getElem hj] at hu
  rw [List.getElem?_eq_getElem hj]
  simpa using hu

/-- The row of a slice that is not empty. -/
theorem Own.row {w : World} {lo hi : Nat} {ao : Option Addr} {n cap : Nat} {l : List Int} (h : Own w lo hi ao n cap l) {j : Nat} (hj : j < n) :
    ∃ b, ao = some ⟨b, 0, none⟩ ∧ lo ≤ b ∧ b < hi ∧ b < w.heap.size ∧ ∀ i, i < n → w.cell? ⟨b, i, none⟩ = some (.int .i64 (l[i]?.getD 0)) ∧ w.frozen? ⟨b, i, none⟩ = false := by
  obtain ⟨h1, h2, h3, h4⟩ := h
  rcases h4 with h4 | ⟨b, f, rfl, hl, hh, hr, hf⟩
  · omega
  · exact ⟨b, rfl, hl, hh, hr.lt, fun i hi => ⟨by rw [hr.cell (by omega), hf i hi], hr.frozen i⟩⟩
/-- A store into a row. -/
theorem Own.store {w : World} {lo hi : Nat} {b n cap : Nat} {l : List Int} (h : Own w lo hi (some ⟨b, 0, none⟩) n cap l) {j : Nat} (hj : j < n) (z : Int) : Own (w.setCell ⟨b, j, none⟩ (.int .i64 z)) lo hi (some ⟨b, 0, none⟩) n cap (l.set j z) := by
  obtain ⟨h1, h2, h3, h4⟩ := h
  rcases h4 with h4 | ⟨b', f, e, hl, hh, hr, hf⟩
  · omega
  · cases e
    refine ⟨by simpa using h1, h2, h3, .inr ⟨b, _, rfl, hl, hh, hr.set j _, fun i hi => ?_⟩⟩
    by_cases e : i = j
    · subst e
      simp [show i < l.length by omega]
    · rw [if_neg e, hf i hi, List.getElem?_set, if_neg (fun h => e h.symm)]

def marks (k : Int) (n : Nat) : List Int := (List.range n).map (fun (j : Nat) => k + (j : Int))
theorem marks_length (k : Int) (n : Nat) : (marks k n).length = n := by simp [marks]
theorem marks_get (k : Int) (n j : Nat) (h : j < n) : (marks k n)[j]?.getD 0 = k + j := by simp [marks, h]
end Go.Proofs.Ytfhpmihjfojbnaa
