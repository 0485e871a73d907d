/- Blocks that are known whole: loads, stores and copies of many cells. Nothing here speaks of the program. -/
import Derived.Test.YtchnnbkaiagpgaaBase
import Derived.Deep.MidRow
import Derived.Deep.RegionLaw
import Derived.Laws.CopyOwn
namespace Go.Proofs.Ytchnnbkaiagpgaa
open Go.RowKit

/-- The block B is a row of the cells cs. -/
def WB (w : World) (B : Nat) (cs : List Value) (t : TypeId) : Prop := w.heap[B]? = some (.cells cs.toArray t (0, 0))
theorem WB.lt {w : World} {B : Nat} {cs : List Value} {t : TypeId} (h : WB w B cs t) : B < w.heap.size := (Array.getElem?_eq_some_iff.1 h).1
theorem WB.of {w w' : World} {B : Nat} {cs : List Value} {t : TypeId} (h : WB w B cs t) (k : w'.heap[B]? = w.heap[B]?) : WB w' B cs t := k.trans h
theorem WB.new {w w' : World} {B : Nat} {cs : List Value} {t : TypeId} (h : WB w B cs t) (k : New w w') : WB w' B cs t := h.of (k.block B h.lt)
theorem WB.chg {P : Nat → Prop} {w w' : World} {B : Nat} {cs : List Value} {t : TypeId} (h : WB w B cs t) (k : Chg P w w') (hp : ¬ P B) : WB w' B cs t := h.of (k.block B h.lt hp)
theorem WB.alloc (w : World) (cs : List Value) (t : TypeId) : WB (w.alloc (.cells cs.toArray t)) w.heap.size cs t := heap_alloc_new w _
theorem WB.cell {w : World} {B : Nat} {cs : List Value} {t : TypeId} (h : WB w B cs t) {k : Nat} {v : Value} (hk : cs[k]? = some v) : w.cell? ⟨B, k, none⟩ = some v := by
  rw [cell_of_row w B k cs.toArray t (0, 0) h]; simpa using hk
theorem WB.frozen {w : World} {B : Nat} {cs : List Value} {t : TypeId} (h : WB w B cs t) (k : Nat) : w.frozen? ⟨B, k, none⟩ = false := by
  have h' : w.heap[B]? = some (.cells cs.toArray t (0, 0)) := h
  simp [World.frozen?, h']
theorem WB.set {w : World} {B : Nat} {cs : List Value} {t : TypeId} (h : WB w B cs t) (k : Nat) (v : Value) : WB (w.setCell ⟨B, k, none⟩ v) B (cs.set k v) t := by
  have h' : w.heap[B]? = some (.cells cs.toArray t (0, 0)) := h
  rw [setCell_eq_setRow w B k cs.toArray t (0, 0) v h']
  have := setRow_heap w B cs.toArray (cs.toArray.setIfInBounds k v) t (0, 0) h'
  unfold WB
  rw [this]
  simp
theorem WB.apart {w : World} {B : Nat} {cs : List Value} {t : TypeId} (h : WB w B cs t) {p : Addr} (hp : p.block ≠ B) (v : Value) : WB (w.setCell p v) B cs t :=
  h.of (Below.heap_setCell _ _ _ _ (fun e => hp e.symm))
theorem WB.range {w : World} {B : Nat} {cs : List Value} {t : TypeId} (h : WB w B cs t) (o : Nat) {part : List Value} (hp : ∀ j v, part[j]? = some v → cs[o + j]? = some v) : w.rangeAt B o part := fun j v hv => h.cell (hp j v hv)
theorem WB.eqv {w : World} {B : Nat} {cs cs' : List Value} {t : TypeId} (h : WB w B cs t) (e : cs = cs') : WB w B cs' t := e ▸ h
theorem chg_setRow (w : World) (g : Nat) (cs : Array Value) : Chg (fun b => b = g) w (w.setRow g cs) :=
  ⟨rfl, rfl, rfl, by simp [World.setRow], fun k _ hk => setRow_other w g k cs hk⟩

/-- A value of many cells goes into a block that is known whole. -/
theorem run_storeVar_blk {P : Program} (w : World) (B o : Nat) (ty t : TypeId) (cs vs : List Value) (h : WB w B cs t) (hfit : o + vs.length ≤ cs.length) (hi : (P.info? ty).map (·.size) = some vs.length) (h1 : ∀ v ∈ vs, v.oneCell' = true) :
    ∃ w', (storeVar ty ⟨B, o, none⟩ (.agg vs.toArray)).run P w = .ok () w' ∧ WB w' B (splice cs o vs) t ∧ Chg (fun b => b = B) w w' := by
  have := run_storeCells_at P B o t vs 0 cs.toArray w h (by simpa using hfit) h1
  refine ⟨_, ?_, ?_, chg_setRow w B (cs.take o ++ vs ++ cs.drop (o + vs.length)).toArray⟩
  · cases hq : P.info? ty with
    | none => simp [hq] at hi
    | some i =>
      have hs : i.size = vs.length := by simpa [hq] using hi
      simp only [Nat.add_zero] at this
      simp [storeVar, sizeOf, typeInfo, hq, Value.cells, hs, this]
  · have e := setRow_heap w B cs.toArray (cs.take o ++ vs ++ cs.drop (o + vs.length)).toArray t (0, 0) h
    unfold WB splice
    rw [e]
    simp
theorem wpList_store_blk {P : Program} {ops : Array Oper} {rest : List Oper} {op : Oper} {a : Act} {w : World} {Q : Exit → Act → World → Prop} (hgd : op.guard = none) (ty : TypeId) (x y : Operand) (ho : op.op = .store ty x y)
    (B o : Nat) (cs vs : List Value) (t : TypeId) (hx : a.eval x = .pointer (some ⟨B, o, none⟩)) (hy : a.eval y = .agg vs.toArray) (hB : WB w B cs t) (hfit : o + vs.length ≤ cs.length) (hi : (P.info? ty).map (·.size) = some vs.length)
    (h1 : ∀ v ∈ vs, v.oneCell' = true) (h : ∀ w', Hid (WB w' B (splice cs o vs) t) → Chg (fun b => b = B) w w' → wpList P ops Q rest (a.put op.dst undef) w') : wpList P ops Q (op :: rest) a w :=
  wpList_plain hgd fun K hK => by
    obtain ⟨w', hr, hb, hc⟩ := run_storeVar_blk (P := P) w B o ty t cs vs hB hfit hi h1
    unfold Oper.wp execOp
    simp only [ho, hx, hy, Instr.storeAt, Instr.sureAddr, Sem.run_bind, Sem.run_pure, Result.andThen_ok, hr]
    exact hK _ _ (h w' hb hc)
/-- A whole value out of a block. -/
theorem wpList_load_blk {P : Program} {ops : Array Oper} {rest : List Oper} {op : Oper} {a : Act} {w : World} {Q : Exit → Act → World → Prop} (hgd : op.guard = none) (ty : TypeId) (x : Operand) (ho : op.op = .load ty x)
    (B o : Nat) (hx : a.eval x = .pointer (some ⟨B, o, none⟩)) (cs part : List Value) (t : TypeId) (hB : WB w B cs t) (hp : ∀ j v, part[j]? = some v → cs[o + j]? = some v)
    (d : TypeDesc) (hu : P.underlying ty = some d) (hd : d.isRow = true) (hi : (P.info? ty).map (·.size) = some part.length)
    (h : wpList P ops Q rest (a.put op.dst (.agg part.toArray)) w) : wpList P ops Q (op :: rest) a w :=
  wpList_load_mid hgd ty x ho B o hx part d (hB.range o hp) hu hd hi h
theorem wpList_build_as {P : Program} {ops : Array Oper} {rest : List Oper} {o : Oper} {a : Act} {w : World} {Q : Exit → Act → World → Prop} (hgd : o.guard = none) (t : TypeId) (parts : Array (Nat × Operand)) (ho : o.op = .build t parts)
    (cells : List Value) (hf : P.built t (parts.map fun (i, x) => (i, a.eval x)).toList = some cells.toArray)
    (h : wpList P ops Q rest (a.put o.dst (.agg cells.toArray)) w) : wpList P ops Q (o :: rest) a w :=
  wpList_plain hgd fun _ hK => wp_build t parts ho (by rw [hf]; rfl) (hK _ _ (by rw [hf]; exact h))
/-- copy, elements of any size. -/
theorem run_copy_blk {P : Program} (w : World) (dT sT ty elem : TypeId) (B o dLen dCap : Nat) (ad : Addr) (sLen sCap size : Nat) (cs vs : List Value) (t : TypeId)
    (hu : P.underlying dT = some (.slice elem)) (hs : (P.info? elem).map (·.size) = some size) (h : WB w B cs t) (hn : vs.length = Nat.min sLen dLen * size)
    (hsrc : ∀ j v, vs[j]? = some v → w.cell? (ad.add j) = some v) (hfit : o + vs.length ≤ cs.length) (h1 : ∀ v ∈ vs, v.oneCell' = true) :
    ∃ w', (Builtin.copy_ #[dT, sT] ty #[.slice (some ⟨B, o, none⟩) dLen dCap, .slice (some ad) sLen sCap]).run P w = .ok (goInt (Nat.min sLen dLen)) w' ∧ WB w' B (splice cs o vs) t ∧ Chg (fun b => b = B) w w' := by
  have hl := run_loadCells_list (P := P) w ad vs hsrc
  have hst := run_storeCells_at P B o t vs 0 cs.toArray w h (by simpa using hfit) h1
  refine ⟨_, ?_, ?_, chg_setRow w B (cs.take o ++ vs ++ cs.drop (o + vs.length)).toArray⟩
  · cases hq : P.info? elem with
    | none => simp [hq] at hs
    | some i =>
      have hi : i.size = size := by simpa [hq] using hs
      simp only [Nat.add_zero] at hst
      simp [Builtin.copy_, run_underlying hu, Builtin.lenOf, Builtin.firstCells, sizeOf, typeInfo, hq, hi, ← hn, hl, hst]
  · have e := setRow_heap w B cs.toArray (cs.take o ++ vs ++ cs.drop (o + vs.length)).toArray t (0, 0) h
    unfold WB splice
    rw [e]
    simp
theorem wpList_copy_blk {P : Program} {w : World} {ops : Array Oper} {rest : List Oper} {o : Oper} {a : Act} {Q : Exit → Act → World → Prop} (hgd : o.guard = none) (d s : Operand) (dT sT : TypeId)
    (ho : o.op = .call { callee := .builtin .copy, args := #[d, s], argTypes := #[dT, sT] }) (elem : TypeId) (hu : P.underlying dT = some (.slice elem)) (size : Nat) (hsz : (P.info? elem).map (·.size) = some size)
    (B off dLen dCap : Nat) (ad : Addr) (sLen sCap : Nat) (hd : a.eval d = .slice (some ⟨B, off, none⟩) dLen dCap) (hs : a.eval s = .slice (some ad) sLen sCap)
    (cs vs : List Value) (t : TypeId) (hB : WB w B cs t) (hn : vs.length = Nat.min sLen dLen * size)
    (hsrc : ∀ j v, vs[j]? = some v → w.cell? (ad.add j) = some v) (hfit : off + vs.length ≤ cs.length) (h1 : ∀ v ∈ vs, v.oneCell' = true)
    (h : ∀ w', Hid (WB w' B (splice cs off vs) t) → Chg (fun b => b = B) w w' → wpList P ops Q rest (a.put o.dst (goInt (Nat.min sLen dLen))) w') :
    wpList P ops Q (o :: rest) a w := by
  refine wpList_plain hgd fun K hK => ?_
  obtain ⟨w', hrun, hb, hc⟩ := run_copy_blk (P := P) w dT sT o.type elem B off dLen dCap ad sLen sCap size cs vs t hu hsz hB hn hsrc hfit h1
  unfold Oper.wp
  simp [execOp, ho, resolve, invoke, builtin, hd, hs, hrun, Result.andThen]
  exact hK _ _ (h w' hb hc)
theorem splice_zero {α : Type} (L cs : List α) (h : cs.length = L.length) : splice L 0 cs = cs := by
  unfold splice
  rw [List.take_zero, List.nil_append, Nat.zero_add, List.drop_eq_nil_of_le (by omega), List.append_nil]
end Go.Proofs.Ytchnnbkaiagpgaa
