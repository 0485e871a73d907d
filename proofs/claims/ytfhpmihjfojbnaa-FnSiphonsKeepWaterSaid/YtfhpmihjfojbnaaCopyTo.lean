/- A copy into a row of the call's own that is known whole; rows of zeros that a call makes. Nothing here speaks of the program. -/
import Derived.Test.YtfhpmihjfojbnaaBase
import Derived.Laws.CopyOwn
namespace Go.Proofs.Ytfhpmihjfojbnaa
open Go.RowKit

theorem chg_setRow (w : World) (g : Nat) (cs : Array Value) : Chg (fun b => b = g) w (w.setRow g cs) :=
  ⟨rfl, rfl, rfl, by simp [World.setRow], fun k _ hk => setRow_other w g k cs hk⟩

/-- A copy into a row that is known whole: what the row holds behind it, and that nothing else has turned. -/
theorem wpList_copy_to {P : Program} {w : World} {ops : Array Oper} {rest : List Oper} {o : Oper} {a : Act} {Q : Exit → Act → World → Prop} (hgd : o.guard = none) (d s : Operand) (dT sT : TypeId)
    (ho : o.op = .call { callee := .builtin .copy, args := #[d, s], argTypes := #[dT, sT] }) (elem : TypeId) (hu : P.underlying dT = some (.slice elem)) (hsz : (P.info? elem).map (·.size) = some 1)
    (g off dLen dCap : Nat) (ad : Addr) (sLen sCap : Nat) (hd : a.eval d = .slice (some ⟨g, off, none⟩) dLen dCap) (hs : a.eval s = .slice (some ad) sLen sCap)
    (cur : List Value) (t : TypeId) (hg : w.heap[g]? = some (.cells cur.toArray t (0, 0))) (cs : List Value) (hn : cs.length = Nat.min sLen dLen)
    (hsrc : ∀ j v, cs[j]? = some v → w.cell? (ad.add j) = some v) (hfit : off + cs.length ≤ cur.length) (h1 : ∀ v ∈ cs, v.oneCell' = true)
    (h : ∀ w', Hid (w'.heap[g]? = some (.cells (splice cur off cs).toArray t (0, 0))) → Chg (fun b => b = g) w w' → wpList P ops Q rest (a.put o.dst (goInt cs.length)) w') :
    wpList P ops Q (o :: rest) a w :=
  wpList_copy_own hgd d s dT sT ho elem hu hsz g off dLen dCap ad sLen sCap hd hs cur.toArray t hg cs hn hsrc (by simpa using hfit) h1
    (h _ (show _ = _ by simpa [splice] using setRow_heap w g _ _ t _ hg) (chg_setRow _ _ _))

theorem splice_full {α : Type} (L cs : List α) (h : cs.length = L.length) : splice L 0 cs = cs := by
  unfold splice
  rw [List.take_zero, List.nil_append, Nat.zero_add, List.drop_eq_nil_of_le (by omega), List.append_nil]
theorem Own.of_cells {w : World} {lo hi g n : Nat} {l L : List Int} (hl : n = l.length) (hL : L.length = n) (hn : n ≤ 9223372036854775807) (h1 : lo ≤ g) (h2 : g < hi)
    (h : w.heap[g]? = some (.cells (splice (L.map (Value.int .i64)) 0 (l.map (Value.int .i64))).toArray 3 (0, 0))) : Own w lo hi (some ⟨g, 0, none⟩) n n l := by
  rw [splice_full _ _ (by simp; omega)] at h
  refine ⟨hl, Nat.le_refl _, hn, .inr ⟨g, fun j => .int .i64 (l[j]?.getD 0), rfl, h1, h2, ⟨_, h, by simp [hl], fun i hi => ?_⟩, fun j _ => rfl⟩⟩
  simp [List.getElem?_eq_getElem (show i < l.length by omega)]
theorem Chg.own {P : Nat → Prop} {w w' : World} (h : Chg P w w') {g : Nat} {o : Obj} (hg : w.heap[g]? = some o) (hp : ¬ P g) : w'.heap[g]? = some o :=
  (h.block g (Array.getElem?_eq_some_iff.1 hg).1 hp).trans hg
theorem Chg.frz {P : Nat → Prop} {w w' : World} (h : Chg P w w') {p : Addr} {v : Value} (hc : w.cell? p = some v) (hf : w.frozen? p = false) (hp : ¬ P p.block) : w'.frozen? p = false :=
  (World.frozen?_of_block (h.block p.block (World.block_lt_of_cell? w p hc) hp)).trans hf

theorem madeCells_eq (z : Value) (n : Nat) : madeCells #[z] n = (List.replicate n z).toArray := by
  apply Array.ext
  · simp [size_madeCells]
  · intro i h1 h2
    simp [madeCells, Nat.mod_one]
end Go.Proofs.Ytfhpmihjfojbnaa
