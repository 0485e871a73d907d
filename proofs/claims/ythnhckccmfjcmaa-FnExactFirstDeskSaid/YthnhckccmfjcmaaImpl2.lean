/- The program's functions of chapter 1: vessels and arrays of what they hold. -/
import Derived.Test.YthnhckccmfjcmaaImpl1
import Derived.Laws.CopyOwn
namespace Go.Proofs.Ythnhckccmfjcmaa
open Go.RowKit

theorem chg_setRow (w : World) (g : Nat) (cs : Array Value) : Chg (fun b => b = g) w (w.setRow g cs) :=
  ⟨rfl, rfl, rfl, by simp [World.setRow], fun k _ hk => setRow_other w g k cs hk⟩

/-- A copy into a row that is known whole: what the row holds behind it, and that nothing else has turned. -/
theorem wpList_copy_to {P : Program} {w : World} {ops : Array Oper} {rest : List Oper} {o : Oper} {a : Act} {Q : Exit → Act → World → Prop} (hgd : o.guard = none) (d s : Operand) (dT sT : TypeId)
    (ho : o.op = .call { callee := .builtin .copy, args := #[d, s], argTypes := #[dT, sT] }) (elem : TypeId) (hu : P.underlying dT = some (.slice elem)) (hsz : (P.info? elem).map (·.size) = some 1)
    (g off dLen dCap : Nat) (ad : Addr) (sLen sCap : Nat) (hd : a.eval d = .slice (some ⟨g, off, none⟩) dLen dCap) (hs : a.eval s = .slice (some ad) sLen sCap)
    (cur : List Value) (t : TypeId) (hg : w.heap[g]? = some (.cells cur.toArray t (0, 0))) (cs : List Value) (hn : cs.length = Nat.min sLen dLen)
    (hsrc : ∀ j v, cs[j]? = some v → w.cell? (ad.add j) = some v) (hfit : off + cs.length ≤ cur.length) (h1 : ∀ v ∈ cs, v.oneCell' = true)
    (h : ∀ w', Hid (w'.heap[g]? = some (.cells (splice cur off cs).toArray t (0, 0))) → Chg (fun b => b = g) w w' → wpList P ops Q rest (a.put o.dst (goInt cs.length)) w') :
    wpList P ops Q (o :: rest) a w :=
  wpList_copy_own hgd d s dT sT ho elem hu hsz g off dLen dCap ad sLen sCap hd hs cur.toArray t hg cs hn hsrc (by simpa using hfit) h1
    (h _ (show _ = _ by simpa [splice] using setRow_heap w g _ _ t _ hg) (chg_setRow _ _ _))

/-- The same as one step of a region that draws its order. -/
theorem step_copy_to {P : Program} {ops : Array Oper} {o : Oper} {a : Act} {w : World} {K : Act → World → Prop} {Q : Exit → Act → World → Prop} {E : Prop} (hgd : o.guard = none) (d s : Operand) (dT sT : TypeId)
    (ho : o.op = .call { callee := .builtin .copy, args := #[d, s], argTypes := #[dT, sT] }) (elem : TypeId) (hu : P.underlying dT = some (.slice elem)) (hsz : (P.info? elem).map (·.size) = some 1)
    (g off dLen dCap : Nat) (ad : Addr) (sLen sCap : Nat) (hd : a.eval d = .slice (some ⟨g, off, none⟩) dLen dCap) (hs : a.eval s = .slice (some ad) sLen sCap)
    (cur : List Value) (t : TypeId) (hg : w.heap[g]? = some (.cells cur.toArray t (0, 0))) (cs : List Value) (hn : cs.length = Nat.min sLen dLen)
    (hsrc : ∀ j v, cs[j]? = some v → w.cell? (ad.add j) = some v) (hfit : off + cs.length ≤ cur.length) (h1 : ∀ v ∈ cs, v.oneCell' = true)
    (h : ∀ w', Hid (w'.heap[g]? = some (.cells (splice cur off cs).toArray t (0, 0))) → Chg (fun b => b = g) w w' → K (a.put o.dst (goInt cs.length)) w') :
    if Region.wanted o (yielded ops a.tmps) = true then Oper.wp P o a w K Q else E := by
  have hw : Region.wanted o (yielded ops a.tmps) = true := by simp [Region.wanted, hgd]
  rw [if_pos hw]
  have hrun := run_copy_row (P := P) w dT sT o.type elem g off dLen dCap ad sLen sCap cur.toArray t cs hu hsz hg hn hsrc (by simpa using hfit) h1
  unfold Oper.wp
  simp [execOp, ho, resolve, invoke, builtin, hd, hs, hrun, Result.andThen]
  exact h _ (show _ = _ by simpa [splice] using setRow_heap w g _ _ t _ hg) (chg_setRow _ _ _)

theorem splice_full {α : Type} (L cs : List α) (h : cs.length = L.length) : splice L 0 cs = cs := by
  unfold splice
  rw [List.take_zero, List.nil_append, Nat.zero_add, List.drop_eq_nil_of_le (by omega), List.append_nil]
theorem Own.of_cells {w : World} {lo hi g n : Nat} {l L : List Int} (hl : n = l.length) (hL : L.length = n) (hn : n ≤ 9223372036854775807) (h1 : lo ≤ g) (h2 : g < hi)
    (h : w.heap[g]? = some (.cells (splice (L.map (Value.int .i64)) 0 (l.map (Value.int .i64))).toArray 3 (0, 0))) : Own w lo hi (some ⟨g, 0, none⟩) n n l := by
  rw [splice_full _ _ (by simp; omega)] at h
  refine ⟨hl, Nat.le_refl _, hn, .inr ⟨g, fun j => .int .i64 (l[j]?.getD 0), rfl, h1, h2, ⟨_, h, by simp [hl], fun i hi => ?_⟩, fun j _ => rfl⟩⟩
  simp [List.getElem?_eq_getElem (show i < l.length by omega)]
theorem Chg.own {P : Nat → Prop} {w w' : World} (h : Chg P w w') {g : Nat} {o : Obj} (hg : w.heap[g]? = some o) (hp : ¬ P g) : w'.heap[g]? = some o :=
  (h.block g (Array.getElem?_eq_some_iff.1 hg).1 hp).trans hg
theorem Chg.frz {P : Nat → Prop} {w w' : World} (h : Chg P w w') {p : Addr} {v : Value} (hc : w.cell? p = some v) (hf : w.frozen? p = false) (hp : ¬ P p.block) : w'.frozen? p = false :=
  (World.frozen?_of_block (h.block p.block (World.block_lt_of_cell? w p hc) hp)).trans hf

theorem heap_at (w : World) (o : Obj) : (w.alloc o).heap[w.heap.size]? = some o := heap_alloc_new w o

theorem Box5.of_row {W : World} {B : Nat} {t : TypeId} {H : List Int} (hl : H.length ≤ 5)
    (h : W.heap[B]? = some (.cells (splice [Value.int .i64 0, .int .i64 0, .int .i64 0, .int .i64 0, .int .i64 0] 0 (H.map (Value.int .i64))).toArray t (0, 0))) : Box5 W B H where
  lt := (Array.getElem?_eq_some_iff.1 h).1
  cell := by
    intro k hk
    rw [cell_of_row W B k _ t (0, 0) h]
    match H, hl with
    | [], _ => match k, hk with | 0, _ => rfl | 1, _ => rfl | 2, _ => rfl | 3, _ => rfl | 4, _ => rfl
    | [_], _ => match k, hk with | 0, _ => rfl | 1, _ => rfl | 2, _ => rfl | 3, _ => rfl | 4, _ => rfl
    | [_, _], _ => match k, hk with | 0, _ => rfl | 1, _ => rfl | 2, _ => rfl | 3, _ => rfl | 4, _ => rfl
    | [_, _, _], _ => match k, hk with | 0, _ => rfl | 1, _ => rfl | 2, _ => rfl | 3, _ => rfl | 4, _ => rfl
    | [_, _, _, _], _ => match k, hk with | 0, _ => rfl | 1, _ => rfl | 2, _ => rfl | 3, _ => rfl | 4, _ => rfl
    | [_, _, _, _, _], _ => match k, hk with | 0, _ => rfl | 1, _ => rfl | 2, _ => rfl | 3, _ => rfl | 4, _ => rfl
    | _ :: _ :: _ :: _ :: _ :: _ :: _, hl => simp at hl
  frozen := fun k => by simp [World.frozen?, h]

theorem New.trans' {a b c : World} {B : Nat} (h : New a b) (k : Below B b.drew c) (hB : a.heap.size ≤ B := by omega) : New a c := Below.trans h.drew (Below.mono k hB)
theorem Box5.below {W W' : World} {B C : Nat} {H : List Int} (h : Box5 W B H) (k : Below C W.drew W') (hB : B < C) : Box5 W' B H :=
  ⟨Nat.lt_of_lt_of_le h.lt k.size, fun i hi => (Below.cell (p := ⟨B, i, none⟩) k hB).trans (h.cell i hi), fun i => (Below.frozen (p := ⟨B, i, none⟩) k hB).trans (h.frozen i)⟩

theorem madeCells_eq (z : Value) (n : Nat) : madeCells #[z] n = (List.replicate n z).toArray := by
  apply Array.ext
  · simp [size_madeCells]
  · intro i h1 h2
    simp [madeCells, Nat.mod_one]

/-- A box with two rows of zeros, made since W0. -/
def TwoRows (W0 : World) (n : Nat) (p : Value) (W : World) : Prop :=
  ∃ B g h : Nat, p = .pointer (some ⟨B, 0, none⟩) ∧ W.cell? ⟨B, 0, none⟩ = some (.slice (some ⟨g, 0, none⟩) n n) ∧ W.cell? ⟨B, 1, none⟩ = some (.slice (some ⟨h, 0, none⟩) n n) ∧
    W.heap[g]? = some (.cells ((List.replicate n (0 : Int)).map (Value.int .i64)).toArray 3 (0, 0)) ∧ W.heap[h]? = some (.cells ((List.replicate n (0 : Int)).map (Value.int .i64)).toArray 3 (0, 0)) ∧
    W0.heap.size ≤ B ∧ W0.heap.size ≤ g ∧ W0.heap.size ≤ h ∧ B ≠ g ∧ B ≠ h ∧ g ≠ h ∧ New W0 W

theorem heap_alloc_get (w : World) (o : Obj) (k : Nat) : (w.alloc o).heap[k]? = if k = w.heap.size then some o else w.heap[k]? := by
  show (w.heap.push o)[k]? = _
  rw [Array.getElem?_push]
theorem heap_drew_get (w : World) (k : Nat) : w.drew.heap[k]? = w.heap[k]? := rfl
theorem alloc3 (W : World) (a b c : Obj) : (((W.alloc a).alloc b).alloc c).drew.heap[W.heap.size]? = some a ∧ (((W.alloc a).alloc b).alloc c).drew.heap[W.heap.size + 1]? = some b ∧ (((W.alloc a).alloc b).alloc c).drew.heap[W.heap.size + 1 + 1]? = some c := by
  refine ⟨?_, ?_, ?_⟩
  · rw [heap_drew_get, heap_alloc_get, if_neg (by simp; omega), heap_alloc_get, if_neg (by simp), heap_alloc_get, if_pos rfl]
  · rw [heap_drew_get, heap_alloc_get, if_neg (by simp), heap_alloc_get, if_pos (by simp)]
  · rw [heap_drew_get, heap_alloc_get, if_pos (by simp)]
/-- Three blocks in whatever order. -/
theorem TwoRows.mk3 {W0 W : World} {n B g h : Nat} (e : W0.heap.size ≤ B ∧ W0.heap.size ≤ g ∧ W0.heap.size ≤ h ∧ B ≠ g ∧ B ≠ h ∧ g ≠ h) (hn : New W0 W)
    (hB : W.heap[B]? = some (.cells #[.slice (some ⟨g, 0, none⟩) n n, .slice (some ⟨h, 0, none⟩) n n] 24 (0, 0)))
    (hg : W.heap[g]? = some (.cells (Array.replicate n (Value.int .i64 0)) 3 (0, 0))) (hh : W.heap[h]? = some (.cells (Array.replicate n (Value.int .i64 0)) 3 (0, 0))) :
    TwoRows W0 n (.pointer (some ⟨B, 0, none⟩)) W := by
  obtain ⟨e1, e2, e3, e4, e5, e6⟩ := e
  exact ⟨B, g, h, rfl, by rw [cell_of_row W B 0 _ _ _ hB]; rfl, by rw [cell_of_row W B 1 _ _ _ hB]; rfl, by rw [hg]; simp, by rw [hh]; simp, e1, e2, e3, e4, e5, e6, hn⟩
end Go.Proofs.Ythnhckccmfjcmaa
