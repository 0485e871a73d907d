/- What is drawn of rain is a number and a row of numbers; eSame and eSum of a law. -/
import Derived.Test.YtfhpmihjfojbnaaCur
import Derived.Test.YtfhpmihjfojbnaaRows2b
import Derived.Test.YtfhpmihjfojbnaaAll
import Derived.Test.YtfhpmihjfojbnaaCopyTo
import Derived.Laws.AppendOwn
import Derived.Deep.AppendLies
namespace Go.Proofs.Ytfhpmihjfojbnaa
open Go.RowKit Go.IntWalk

theorem ints_at' (w : World) (l : List Int) (t : TypeId) {B : Nat} (hB : w.heap.size = B) (hl : l.length ≤ 1000) : Ints (w.alloc (.cells (l.map (Value.int .i64)).toArray t)) (some ⟨B, 0, none⟩) l.length l.length l := by
  subst hB
  refine ⟨rfl, Nat.le_refl _, by omega, fun j hj => ⟨_, _, rfl, ?_⟩, fun e => by cases e⟩
  simp [hj]
theorem Cur.lt {w : World} {c K : Nat} (h : Cur w c K) : c < w.heap.size := by
  obtain ⟨ao, n, cap, k, s, h0, -⟩ := h.ex
  exact World.block_lt_of_cell? _ _ h0
theorem Cur.fresh' {w : World} {ao : Option Addr} {n cap c : Nat} (hb : Byts w ao n cap) (hc : w.heap.size = c) : Cur (w.alloc (.cells #[.slice ao n cap, .int .i64 0, .int .u64 0] 71)) c 0 := by
  subst hc
  exact Cur.start hb ((New.refl w).alloc _) (Nat.le_refl _) (by simp) (by simp) (by simp) (by simp) (by simp)
theorem Chg.alloc {P : Nat → Prop} {w w' : World} (h : Chg P w w') (o : Obj) : Chg P w (w'.alloc o) := h.trans (Chg.of_new ((New.refl w').alloc o))
/-- A row that a draw gives. -/
def RowD (w : World) (lo : Nat) (v : Value) : Prop := ∃ (n : Nat) (l : List Int), n ≤ 1000 ∧ w.ownsRow lo 3 1 v n (l.map (Value.int .i64))
theorem ownsRow_chg {P : Nat → Prop} {w w' : World} {lo : Nat} {v : Value} {n : Nat} {xs : List Value} (h : w.ownsRow lo 3 1 v n xs) (k : Chg P w w') (hP : ∀ b, lo ≤ b → ¬ P b) : w'.ownsRow lo 3 1 v n xs :=
  ownsRow_block h fun g e => k.block g (h.lt g e).2 (hP g (h.lt g e).1)
theorem Chg.grown {P : Nat → Prop} {w0 w w' : World} {base : Nat} {e : TypeId} {size n : Nat} {v : Value} {xs : List Value} (h : Chg P w0 w) (ho : w.ownsRow base e size v n xs) (hb : w0.heap.size ≤ base) (hg : w.grownBy w' v.ownBlock) : Chg P w0 w' :=
  ⟨hg.os.trans h.os, hg.tape.trans h.tape, hg.output.trans h.output, Nat.le_trans h.size hg.size, fun k hk hP => (hg.block k (Nat.lt_of_lt_of_le hk h.size) (fun e => by have := (ho.lt k e.symm).1; omega)).trans (h.block k hk hP)⟩
theorem Cur.grown {w w' : World} {c K base : Nat} {e : TypeId} {size n : Nat} {v : Value} {xs : List Value} (h : Cur w c K) (ho : w.ownsRow base e size v n xs) (hb : c < base) (hg : w.grownBy w' v.ownBlock) : Cur w' c K :=
  h.kept fun i hi => hg.block i (Nat.lt_of_le_of_lt hi h.lt) (fun e => by have := (ho.lt i e.symm).1; omega)
theorem RowD.ints {w : World} {lo : Nat} {v : Value} (h : RowD w lo v) : ∃ ao n cap l, v = .slice ao n cap ∧ n ≤ 1000 ∧ Own w lo w.heap.size ao n cap l := by
  obtain ⟨n, l, hn, ho⟩ := h
  obtain ⟨oa, oc, e, o⟩ := Own.of_row ho
  exact ⟨oa, n, oc, l, e, hn, o⟩
theorem RowD.new {w w' : World} {lo : Nat} {v : Value} (h : RowD w lo v) (k : New w w') : RowD w' lo v := by
  obtain ⟨n, l, hn, ho⟩ := h
  exact ⟨n, l, hn, ownsRow_new ho k⟩
theorem RowD.chg {P : Nat → Prop} {w w' : World} {lo : Nat} {v : Value} (h : RowD w lo v) (k : Chg P w w') (hP : ∀ b, lo ≤ b → ¬ P b) : RowD w' lo v := by
  obtain ⟨n, l, hn, ho⟩ := h
  exact ⟨n, l, hn, ownsRow_chg ho k hP⟩
theorem run_makeD {n : Nat} (hn : n ≤ 1048576) (w : World) :
    (Instr.makeSlice 28 (.int .i64 (n : Int)) (.int .i64 (n : Int))).run Try.prog w = .ok (.slice (some ⟨w.heap.size, 0, none⟩) n n) (w.alloc (.cells (madeCells #[.int .i64 0] (n * 1)) 3)) := by
  obtain ⟨i, hi, hzz⟩ := Option.map_eq_some_iff.1 Try.infoInt
  simp only [Prod.mk.injEq] at hzz
  obtain ⟨hz, hs, hb⟩ := hzz
  have hr := run_make (P := Try.prog) w 28 3 i _ Try.underlying28 hi hz .i64 .i64 n n (by omega) (Int.le_refl _) (by rw [hb]; omega) (by omega)
  rw [hs] at hr
  simp only [Int.toNat_natCast] at hr
  exact hr
theorem made_row (w : World) (n : Nat) {lo : Nat} (hl : lo ≤ w.heap.size) (hn : n ≤ 1000) : RowD (w.alloc (.cells (madeCells #[.int .i64 0] (n * 1)) 3)) lo (.slice (some ⟨w.heap.size, 0, none⟩) n n) := by
  refine ⟨n, List.replicate n 0, hn, ?_⟩
  rw [Nat.mul_one, madeCells_eq]
  exact ⟨by simp, .inr ⟨w.heap.size, n, (List.replicate n (Value.int .i64 0)).toArray, rfl, hl, heap_alloc_new w _, Nat.le_refl _, by unfold maxLen; omega, by simp, by simp⟩⟩
end Go.Proofs.Ytfhpmihjfojbnaa
