/- The program's functions of chapter 1: vessels and arrays of what they hold. -/
import Derived.Test.YtilepckgcgdjgaaImpl1
import Derived.Laws.CopyOwn
namespace Go.Proofs.Ytilepckgcgdjgaa
open Go.RowKit

theorem chg_setRow (w : World) (g : Nat) (cs : Array Value) : Chg (fun b => b = g) w (w.setRow g cs) :=
  ⟨rfl, rfl, rfl, by simp [World.setRow], fun k _ hk => setRow_other w g k cs hk⟩

/-- A copy into a row that is known whole: what the row holds behind it, and that nothing else has turned. -/
theorem wpList_copy_to {P : Program} {w : World} {ops : Array Oper} {rest : List Oper} {o : Oper} {a : Act} {Q : Exit → Act → World → Prop} (hgd : o.guard = none) (d s : Operand) (dT sT : TypeId)
    (ho : o.op = .call { callee := .builtin .copy, args := #[d, s], argTypes := #[dT, sT] }) (elem : TypeId) (hu : P.underlying dT = some (.slice elem)) (hsz : (P.info? elem).map (·.size) = some 1)
    (g off dLen dCap : Nat) (ad : Addr) (sLen sCap : Nat) (hd : a.eval d = .slice (some ⟨g, off, none⟩) dLen dCap) (hs : a.eval s = .slice (some ad) sLen sCap)
    (cur : List Value) (t : TypeId) (hg : w.heap[g]? = some (.cells cur.toArray t (0, 0))) (cs : List Value) (hn : cs.length = Nat.min sLen dLen)
    (hsrc : ∀ j v, cs[j]? = some v → w.cell? (ad.add j) = some v) (hfit : off + cs.length ≤ cur.length) (h1 : ∀ v ∈ cs, v.oneCell' = true)
    (h : ∀ w', Hid (w'.heap[g]? = some (.cells (splice cur off cs).toArray t (0, 0))) → Chg (fun b => b = g) w w' → wpList P ops Q rest (a.put o.dst (goInt cs.length)) w') :
    wpList P ops Q (o :: rest) a w :=
  wpList_copy_own hgd d s dT sT ho elem hu hsz g off dLen dCap ad sLen sCap hd hs cur.toArray t hg cs hn hsrc (by simpa using hfit) h1
    (h _ (show _ = _ by simpa [splice] using setRow_heap w g _ _ t _ hg) (chg_setRow _ _ _))

/-- The same as one step of a region that draws its order. -/
theorem step_copy_to {P : Program} {ops : Array Oper} {o : Oper} {a : Act} {w : World} {K : Act → World → Prop} {Q : Exit → Act → World → Prop} {E : Prop} (hgd : o.guard = none) (d s : Operand) (dT sT : TypeId)
    (ho : o.op = .call { callee := .builtin .copy, args := #[d, s], argTypes := #[dT, sT] }) (elem : TypeId) (hu : P.underlying dT = some (.slice elem)) (hsz : (P.info? elem).map (·.size) = some 1)
    (g off dLen dCap : Nat) (ad : Addr) (sLen sCap : Nat) (hd : a.eval d = .slice (some ⟨g, off, none⟩) dLen dCap) (hs : a.eval s = .slice (some ad) sLen sCap)
    (cur : List Value) (t : TypeId) (hg : w.heap[g]? = some (.cells cur.toArray t (0, 0))) (cs : List Value) (hn : cs.length = Nat.min sLen dLen)
    (hsrc : ∀ j v, cs[j]? = some v → w.cell? (ad.add j) = some v) (hfit : off + cs.length ≤ cur.length) (h1 : ∀ v ∈ cs, v.oneCell' = true)
    (h : ∀ w', Hid (w'.heap[g]? = some (.cells (splice cur off cs).toArray t (0, 0))) → Chg (fun b => b = g) w w' → K (a.put o.dst (goInt cs.length)) w') :
    if Region.wanted o (yielded ops a.tmps) = true then Oper.wp P o a w K Q else E := by
  have hw : Region.wanted o (yielded ops a.tmps) = true := by simp [Region.wanted, hgd]
  rw [if_pos hw]
  have hrun := run_copy_row (P := P) w dT sT o.type elem g off dLen dCap ad sLen sCap cur.toArray t cs hu hsz hg hn hsrc (by simpa using hfit) h1
  unfold Oper.wp
  simp [execOp, ho, resolve, invoke, builtin, hd, hs, hrun, Result.andThen]
  exact h _ (show _ = _ by simpa [splice] using setRow_heap w g _ _ t _ hg) (chg_setRow _ _ _)

theorem splice_full {α : Type} (L cs : List α) (h : cs.length = L.length) : splice L 0 cs = cs := by
  unfold splice
  rw [List.take_zero, List.nil_append, Nat.zero_add, List.drop_eq_nil_of_le (by omega), List.append_nil]
theorem Own.of_cells {w : World} {lo hi g n : Nat} {l L : List Int} (hl : n = l.length) (hL : L.length = n) (hn : n ≤ 9223372036854775807) (h1 : lo ≤ g) (h2 : g < hi)
    (h : w.heap[g]? = some (.cells (splice (L.map (Value.int .i64)) 0 (l.map (Value.int .i64))).toArray 3 (0, 0))) : Own w lo hi (some ⟨g, 0, none⟩) n n l := by
  rw [splice_full _ _ (by simp; omega)] at h
  refine ⟨hl, Nat.le_refl _, hn, .inr ⟨g, fun j => .int .i64 (l[j]?.getD 0), rfl, h1, h2, ⟨_, h, by simp [hl], fun i hi => ?_⟩, fun j _ => rfl⟩⟩
  simp [List.getElem?_eq_getElem (show i < l.length by omega)]
theorem Chg.own {P : Nat → Prop} {w w' : World} (h : Chg P w w') {g : Nat} {o : Obj} (hg : w.heap[g]? = some o) (hp : ¬ P g) : w'.heap[g]? = some o :=
  (h.block g (Array.getElem?_eq_some_iff.1 hg).1 hp).trans hg
theorem Chg.frz {P : Nat → Prop} {w w' : World} (h : Chg P w w') {p : Addr} {v : Value} (hc : w.cell? p = some v) (hf : w.frozen? p = false) (hp : ¬ P p.block) : w'.frozen? p = false :=
  (World.frozen?_of_block (h.block p.block (World.block_lt_of_cell? w p hc) hp)).trans hf

theorem heap_at (w : World) (o : Obj) : (w.alloc o).heap[w.heap.size]? = some o := heap_alloc_new w o

theorem Box5.of_row {W : World} {B : Nat} {t : TypeId} {H : List Int} (hl : H.length ≤ 5)
    (h : W.heap[B]? = some (.cells (splice [Value.int .i64 0, .int .i64 0, .int .i64 0, .int .i64 0, .int .i64 0] 0 (H.map (Value.int .i64))).toArray t (0, 0))) : Box5 W B H where
  lt := (Array.getElem?_eq_some_iff.1 h).1
  cell := by
    intro k hk
    rw [cell_of_row W B k _ t (0, 0) h]
    match H, hl with
    | [], _ => match k, hk with | 0, _ => rfl | 1, _ => rfl | 2, _ => rfl | 3, _ => rfl | 4, _ => rfl
    | [_], _ => match k, hk with | 0, _ => rfl | 1, _ => rfl | 2, _ => rfl | 3, _ => rfl | 4, _ => rfl
    | [_, _], _ => match k, hk with | 0, _ => rfl | 1, _ => rfl | 2, _ => rfl | 3, _ => rfl | 4, _ => rfl
    | [_, _, _], _ => match k, hk with | 0, _ => rfl | 1, _ => rfl | 2, _ => rfl | 3, _ => rfl | 4, _ => rfl
    | [_, _, _, _], _ => match k, hk with | 0, _ => rfl | 1, _ => rfl | 2, _ => rfl | 3, _ => rfl | 4, _ => rfl
    | [_, _, _, _, _], _ => match k, hk with | 0, _ => rfl | 1, _ => rfl | 2, _ => rfl | 3, _ => rfl | 4, _ => rfl
    | _ :: _ :: _ :: _ :: _ :: _ :: _, hl => simp at hl
  frozen := fun k => by simp [World.frozen?, h]

theorem New.trans' {a b c : World} {B : Nat} (h : New a b) (k : Below B b.drew c) (hB : a.heap.size ≤ B := by omega) : New a c := Below.trans h.drew (Below.mono k hB)
theorem Box5.below {W W' : World} {B C : Nat} {H : List Int} (h : Box5 W B H) (k : Below C W.drew W') (hB : B < C) : Box5 W' B H :=
  ⟨Nat.lt_of_lt_of_le h.lt k.size, fun i hi => (Below.cell (p := ⟨B, i, none⟩) k hB).trans (h.cell i hi), fun i => (Below.frozen (p := ⟨B, i, none⟩) k hB).trans (h.frozen i)⟩

theorem res_holdingOf {tmps : Array Value} {W : World} {R : Nat} {H : List Int} (ht : tmps[2]?.getD undef = .pointer (some ⟨R, 0, none⟩)) (h : Box5 W R H) : (results Try.f56 tmps).run Try.prog W = .ok (holdV H) W := by
  obtain ⟨c0, c1, c2, c3, c4⟩ := h.five
  simp [results, Try.results56, go_sem, ht, c0, c1, c2, c3, c4]

theorem holdingOf_any (w : World) (aa ab : Option Addr) (n m ca cb : Nat) (H : List Int) (h2 : Ints w ab m cb H) (hl : H.length ≤ 5) :
    Calls Try.prog 56 #[.agg #[.slice aa n ca, .slice ab m cb]] w fun e w' => e = .returned (holdV H) ∧ New w w' := by
  have HB := Lib.hid h2; clear h2
  have HL := Lib.hid hl; clear hl
  obtain ⟨W0, hW0⟩ : ∃ W0, W0 = (w.alloc (.cells #[.slice aa n ca, .slice ab m cb] 28)).alloc (.cells #[.int .i64 0, .int .i64 0, .int .i64 0, .int .i64 0, .int .i64 0] 67) := ⟨_, rfl⟩
  have s0 : W0.heap.size = w.heap.size + 1 + 1 := by rw [hW0]; simp
  have n0 : New w W0 := by rw [hW0]; exact (by repeat (first | with_reducible exact New.refl _ | with_reducible assumption | refine New.drewN ?_ _ | refine New.drew ?_ | refine New.alloc ?_ _ | refine New.setCell ?_ (by first | omega | (simp; omega) | (simp; done)) _ | (refine New.trans ?_ (by assumption))))
  have c1 : W0.cell? ⟨w.heap.size, 1, none⟩ = some (.slice ab m cb) := by rw [hW0]; simp [go_sem]
  have r0 : Box5 W0 (w.heap.size + 1) [] := by
    rw [hW0]
    have hr := Box5.made (w.alloc (.cells #[.slice aa n ca, .slice ab m cb] 28)) [] 67
    simpa using hr
  obtain ⟨W1, hW1⟩ : ∃ W1, W1 = W0.alloc (.cells #[.int .i64 0, .int .i64 0, .int .i64 0, .int .i64 0, .int .i64 0] 67) := ⟨_, rfl⟩
  have n1 : New W0 W1 := by rw [hW1]; exact (by repeat (first | with_reducible exact New.refl _ | with_reducible assumption | refine New.drewN ?_ _ | refine New.drew ?_ | refine New.alloc ?_ _ | refine New.setCell ?_ (by first | omega | (simp; omega) | (simp; done)) _ | (refine New.trans ?_ (by assumption))))
  have g1 : W1.heap[w.heap.size + 1 + 1]? = some (.cells [Value.int .i64 0, .int .i64 0, .int .i64 0, .int .i64 0, .int .i64 0].toArray 67 (0, 0)) := by rw [hW1, ← s0]; exact heap_at _ _
  have d1 := n1.cell c1
  have HW := Lib.hid (hW1.trans (congrArg (fun x => World.alloc x _) hW0)); clear hW1 hW0
  have N1 := Lib.hid (n0.trans n1)
  have R1 := Lib.hid (r0.new n1)
  have G1 := Lib.hid g1
  clear c1 r0 n1 n0 g1 s0
  have hl5 := HL.out
  have hm := HB.out.len
  have X1 := Lib.hid (show (H.map (Value.int .i64)).length = Nat.min m 5 by rw [List.length_map, ← hm]; exact (Nat.min_eq_left (by omega)).symm)
  have X2 := Lib.hid (show 0 < (H.map (Value.int .i64)).length → ∃ ad, ab = some ad ∧ ∀ j v, (H.map (Value.int .i64))[j]? = some v → W1.drew.cell? (ad.add j) = some v from fun h => by
    have hb := HB.out.new N1.out
    cases hab : ab with
    | none =>
      obtain ⟨b, o, e, _⟩ := hb.at (j := 0) (by simp at h; omega)
      rw [hab] at e; cases e
    | some ad => rw [hab] at hb; exact ⟨ad, rfl, hb.source⟩)
  have X3 := Lib.hid (show 0 + (H.map (Value.int .i64)).length ≤ [Value.int .i64 0, .int .i64 0, .int .i64 0, .int .i64 0, .int .i64 0].length by simpa using hl5)
  have X4 := Lib.hid (show ∀ v ∈ H.map (Value.int .i64), v.oneCell' = true from fun v hv => by simp at hv; obtain ⟨z, _, rfl⟩ := hv; rfl)
  clear hl5 hm
  have z1 : w.heap.size + 1 + 1 < W1.heap.size := (Array.getElem?_eq_some_iff.1 G1.out).1
  go_enter Try.func56, Try.ntmps56
  go_upto_region 2 with fail
  rw [← HW.out]
  go_region_law (refine step_copy_splice rfl (.tmp 4) (.tmp 6) 22 22 rfl 3 Try.underlying22 (by kernel_rfl) _ _ _ _ _ _ rfl rfl (w.heap.size + 1 + 1) 0 [Value.int .i64 0, .int .i64 0, .int .i64 0, .int .i64 0, .int .i64 0] 67 G1.out (H.map (Value.int .i64)) X1.out (fun h => ⟨rfl, X2.out h⟩) X3.out X4.out (w.heap.size + 1 + 1) W1.drew (Below.refl _ _) (Nat.le_refl _) ?_; intro W2 HG2 hB2)
  have hb2 : Box5 W2 (w.heap.size + 1 + 1) H := Box5.of_row HL.out HG2.out
  have B2 := Lib.hid hb2; clear hb2
  have n2 : New w W2 := N1.out.trans' hB2
  have N2 := Lib.hid n2; clear n2
  have r2 : Box5 W2 (w.heap.size + 1) [] := R1.out.below hB2 (by omega)
  have R2 := Lib.hid r2; clear r2
  clear hB2 HG2
  go_wp2_with (first | (refine wpList_load_mid rfl 67 _ rfl (w.heap.size + 1 + 1) 0 rfl (cells5 H) _ B2.out.range Try.underlying67 rfl (by kernel_rfl) ?_) | (refine wpList_store_mid rfl 67 _ _ rfl (w.heap.size + 1) 0 (cells5 H).toArray rfl rfl (R2.out.room _) (by kernel_rfl) (cells5_one _) ?_))
  refine bodyPost_ret (v := holdV H) ?_ rfl ⟨rfl, N2.out.setCells (by omega) _ _⟩
  exact res_holdingOf rfl (R2.out.fill _)

theorem madeCells_eq (z : Value) (n : Nat) : madeCells #[z] n = (List.replicate n z).toArray := by
  apply Array.ext
  · simp [size_madeCells]
  · intro i h1 h2
    simp [madeCells, Nat.mod_one]

/-- A box with two rows of zeros, made since W0. -/
def TwoRows (W0 : World) (n : Nat) (p : Value) (W : World) : Prop :=
  ∃ B g h : Nat, p = .pointer (some ⟨B, 0, none⟩) ∧ W.cell? ⟨B, 0, none⟩ = some (.slice (some ⟨g, 0, none⟩) n n) ∧ W.cell? ⟨B, 1, none⟩ = some (.slice (some ⟨h, 0, none⟩) n n) ∧
    W.heap[g]? = some (.cells ((List.replicate n (0 : Int)).map (Value.int .i64)).toArray 3 (0, 0)) ∧ W.heap[h]? = some (.cells ((List.replicate n (0 : Int)).map (Value.int .i64)).toArray 3 (0, 0)) ∧
    W0.heap.size ≤ B ∧ W0.heap.size ≤ g ∧ W0.heap.size ≤ h ∧ B ≠ g ∧ B ≠ h ∧ g ≠ h ∧ New W0 W

theorem heap_alloc_get (w : World) (o : Obj) (k : Nat) : (w.alloc o).heap[k]? = if k = w.heap.size then some o else w.heap[k]? := by
  show (w.heap.push o)[k]? = _
  rw [Array.getElem?_push]
theorem heap_drew_get (w : World) (k : Nat) : w.drew.heap[k]? = w.heap[k]? := rfl
theorem alloc3 (W : World) (a b c : Obj) : (((W.alloc a).alloc b).alloc c).drew.heap[W.heap.size]? = some a ∧ (((W.alloc a).alloc b).alloc c).drew.heap[W.heap.size + 1]? = some b ∧ (((W.alloc a).alloc b).alloc c).drew.heap[W.heap.size + 1 + 1]? = some c := by
  refine ⟨?_, ?_, ?_⟩
  · rw [heap_drew_get, heap_alloc_get, if_neg (by simp; omega), heap_alloc_get, if_neg (by simp), heap_alloc_get, if_pos rfl]
  · rw [heap_drew_get, heap_alloc_get, if_neg (by simp), heap_alloc_get, if_pos (by simp)]
  · rw [heap_drew_get, heap_alloc_get, if_pos (by simp)]
/-- Three blocks in whatever order. -/
theorem TwoRows.mk3 {W0 W : World} {n B g h : Nat} (e : W0.heap.size ≤ B ∧ W0.heap.size ≤ g ∧ W0.heap.size ≤ h ∧ B ≠ g ∧ B ≠ h ∧ g ≠ h) (hn : New W0 W)
    (hB : W.heap[B]? = some (.cells #[.slice (some ⟨g, 0, none⟩) n n, .slice (some ⟨h, 0, none⟩) n n] 28 (0, 0)))
    (hg : W.heap[g]? = some (.cells (Array.replicate n (Value.int .i64 0)) 3 (0, 0))) (hh : W.heap[h]? = some (.cells (Array.replicate n (Value.int .i64 0)) 3 (0, 0))) :
    TwoRows W0 n (.pointer (some ⟨B, 0, none⟩)) W := by
  obtain ⟨e1, e2, e3, e4, e5, e6⟩ := e
  exact ⟨B, g, h, rfl, by rw [cell_of_row W B 0 _ _ _ hB]; rfl, by rw [cell_of_row W B 1 _ _ _ hB]; rfl, by rw [hg]; simp, by rw [hh]; simp, e1, e2, e3, e4, e5, e6, hn⟩

theorem vesselsWith_any (w : World) (aa : Option Addr) (n ca : Nat) (S H : List Int) (h1 : Ints w aa n ca S) (hpos : 1 ≤ S.length) (hl : S.length ≤ 5) (hl2 : H.length = S.length) :
    Calls Try.prog 41 #[.slice aa n ca, holdV H] w fun e w' =>
      ∃ sa sb, e = .returned (.agg #[.slice sa n n, .slice sb n n]) ∧ OwnV w' w.heap.size w'.heap.size sa n n sb n n S H ∧ New w w' := by
  have HA := Lib.hid h1; clear h1
  have HL := Lib.hid (And.intro hl hl2); clear hl hl2
  have hn := HA.out.len
  have q1 : 1 ≤ n := by omega
  clear hpos
  have q5 : n ≤ 5 := by have := HL.out.1; omega
  have HN := Lib.hid hn; clear hn
  have hmk := run_make_row' (P := Try.prog) 22 3 (.int .i64 0) 8 Try.underlying22 Try.infoInt rfl .i64 .i64 n (by omega) (by omega)
  simp only [madeCells_eq] at hmk
  obtain ⟨W1, hW1⟩ : ∃ W1, W1 = (w.alloc (.cells #[.int .i64 (H[0]?.getD 0), .int .i64 (H[1]?.getD 0), .int .i64 (H[2]?.getD 0), .int .i64 (H[3]?.getD 0), .int .i64 (H[4]?.getD 0)] 67)).alloc (.cells #[.slice none 0 0, .slice none 0 0] 28) := ⟨_, rfl⟩
  have n1 : New w W1 := by rw [hW1]; exact (by repeat (first | with_reducible exact New.refl _ | with_reducible assumption | refine New.drewN ?_ _ | refine New.drew ?_ | refine New.alloc ?_ _ | refine New.setCell ?_ (by first | omega | (simp; omega) | (simp; done)) _ | (refine New.trans ?_ (by assumption))))
  have s1 : W1.heap.size = w.heap.size + 1 + 1 := by rw [hW1]; simp
  have r0 : W1.cell? ⟨w.heap.size + 1, 0, none⟩ = some (.slice none 0 0) := by rw [hW1]; simp [go_sem]
  have r1 : W1.cell? ⟨w.heap.size + 1, 1, none⟩ = some (.slice none 0 0) := by rw [hW1]; simp [go_sem]
  have f0 : W1.frozen? ⟨w.heap.size + 1, 0, none⟩ = false := by rw [hW1]; simp [go_sem]
  have f1 : W1.frozen? ⟨w.heap.size + 1, 1, none⟩ = false := by rw [hW1]; simp [go_sem]
  have b1 : Box5 W1 w.heap.size H := by rw [hW1]; exact (Box5.made w H _).new (by repeat (first | with_reducible exact New.refl _ | with_reducible assumption | refine New.drewN ?_ _ | refine New.drew ?_ | refine New.alloc ?_ _ | refine New.setCell ?_ (by first | omega | (simp; omega) | (simp; done)) _ | (refine New.trans ?_ (by assumption))))
  have HW := Lib.hid hW1; clear hW1
  have N1 := Lib.hid n1; clear n1
  have S1 := Lib.hid s1; clear s1
  have R1 := Lib.hid (And.intro r0 (And.intro r1 (And.intro f0 f1))); clear r0 r1 f0 f1
  have B1 := Lib.hid b1; clear b1
  go_enter Try.func41, Try.ntmps41
  go_upto_region 1 with fail
  rw [← HW.out]
  go_cut [5] (TwoRows W1 n)
  case first =>
    go_region
    all_goals (go_wp2_with fail; go_meet)
    all_goals first
      | exact TwoRows.mk3 (B := W1.heap.size) (g := W1.heap.size + 1) (h := W1.heap.size + 1 + 1) (by omega) (by repeat (first | with_reducible exact New.refl _ | with_reducible assumption | refine New.drewN ?_ _ | refine New.drew ?_ | refine New.alloc ?_ _ | refine New.setCell ?_ (by first | omega | (simp; omega) | (simp; done)) _ | (refine New.trans ?_ (by assumption)))) (alloc3 _ _ _ _).1 (alloc3 _ _ _ _).2.1 (alloc3 _ _ _ _).2.2
      | exact TwoRows.mk3 (B := W1.heap.size) (g := W1.heap.size + 1 + 1) (h := W1.heap.size + 1) (by omega) (by repeat (first | with_reducible exact New.refl _ | with_reducible assumption | refine New.drewN ?_ _ | refine New.drew ?_ | refine New.alloc ?_ _ | refine New.setCell ?_ (by first | omega | (simp; omega) | (simp; done)) _ | (refine New.trans ?_ (by assumption)))) (alloc3 _ _ _ _).1 (alloc3 _ _ _ _).2.2 (alloc3 _ _ _ _).2.1
      | exact TwoRows.mk3 (B := W1.heap.size + 1) (g := W1.heap.size) (h := W1.heap.size + 1 + 1) (by omega) (by repeat (first | with_reducible exact New.refl _ | with_reducible assumption | refine New.drewN ?_ _ | refine New.drew ?_ | refine New.alloc ?_ _ | refine New.setCell ?_ (by first | omega | (simp; omega) | (simp; done)) _ | (refine New.trans ?_ (by assumption)))) (alloc3 _ _ _ _).2.1 (alloc3 _ _ _ _).1 (alloc3 _ _ _ _).2.2
      | exact TwoRows.mk3 (B := W1.heap.size + 1) (g := W1.heap.size + 1 + 1) (h := W1.heap.size) (by omega) (by repeat (first | with_reducible exact New.refl _ | with_reducible assumption | refine New.drewN ?_ _ | refine New.drew ?_ | refine New.alloc ?_ _ | refine New.setCell ?_ (by first | omega | (simp; omega) | (simp; done)) _ | (refine New.trans ?_ (by assumption)))) (alloc3 _ _ _ _).2.1 (alloc3 _ _ _ _).2.2 (alloc3 _ _ _ _).1
      | exact TwoRows.mk3 (B := W1.heap.size + 1 + 1) (g := W1.heap.size) (h := W1.heap.size + 1) (by omega) (by repeat (first | with_reducible exact New.refl _ | with_reducible assumption | refine New.drewN ?_ _ | refine New.drew ?_ | refine New.alloc ?_ _ | refine New.setCell ?_ (by first | omega | (simp; omega) | (simp; done)) _ | (refine New.trans ?_ (by assumption)))) (alloc3 _ _ _ _).2.2 (alloc3 _ _ _ _).1 (alloc3 _ _ _ _).2.1
      | exact TwoRows.mk3 (B := W1.heap.size + 1 + 1) (g := W1.heap.size + 1) (h := W1.heap.size) (by omega) (by repeat (first | with_reducible exact New.refl _ | with_reducible assumption | refine New.drewN ?_ _ | refine New.drew ?_ | refine New.alloc ?_ _ | refine New.setCell ?_ (by first | omega | (simp; omega) | (simp; done)) _ | (refine New.trans ?_ (by assumption)))) (alloc3 _ _ _ _).2.2 (alloc3 _ _ _ _).2.1 (alloc3 _ _ _ _).1
  case rest =>
    obtain ⟨B, g, h, rfl, c0, c1, hg, hh, e1, e2, e3, e4, e5, e6, n2⟩ := hcut
    have HG := Lib.hid hg; clear hg
    have HH := Lib.hid hh; clear hh
    have N2 := Lib.hid n2
    have hb := B1.out.new n2
    have HBx := Lib.hid hb; clear hb
    obtain ⟨r0, r1, f0, f1⟩ := R1.out
    obtain ⟨r0, r1, f0, f1⟩ := New.boxed n2 r0 r1 f0 f1
    have hs := HA.out.new (N1.out.trans n2)
    have zB : W1.heap.size < wc.heap.size := by have := World.block_lt_of_cell? wc _ c0; simp at this; omega
    clear n2
    have R2 := Lib.hid (And.intro r0 (And.intro r1 (And.intro f0 f1))); clear r0 r1 f0 f1
    have s1 := S1.out
    obtain ⟨ba, oa, rfl, _, _⟩ := hs.at (j := 0) (by have := HN.out; omega)
    have X1 := Lib.hid (show (S.map (Value.int .i64)).length = Nat.min n n by rw [List.length_map, ← HN.out]; exact (Nat.min_self _).symm)
    have X2 := Lib.hid hs.source
    have X3 := Lib.hid (show 0 + (S.map (Value.int .i64)).length ≤ ((List.replicate n (0 : Int)).map (Value.int .i64)).length by have := HN.out; simp; omega)
    have X4 := Lib.hid (show ∀ v ∈ S.map (Value.int .i64), v.oneCell' = true from fun v hv => by simp at hv; obtain ⟨z, _, rfl⟩ := hv; rfl)
    clear hs
    have zw : w.heap.size ≠ g := by omega
    have zr : w.heap.size + 1 ≠ g := by omega
    go_wp2_with (refine wpList_copy_to rfl (.tmp 14) (.tmp 15) 22 22 rfl 3 Try.underlying22 (by kernel_rfl) g 0 _ _ ⟨ba, oa, none⟩ _ _ rfl rfl ((List.replicate n (0 : Int)).map (Value.int .i64)) 3 HG.out (S.map (Value.int .i64)) X1.out X2.out X3.out X4.out ?_; intro W2 HG2 hC2; have d0 := hC2.cell c0 e4; have d1 := hC2.cell c1 e4)
    have K2 := Lib.hid hC2; clear hC2 c0 c1
    have hh2 := Lib.hid (K2.out.own HH.out (Ne.symm e6))
    have hb2 : Box5 W2 w.heap.size H := ⟨Nat.lt_of_lt_of_le HBx.out.lt K2.out.size, fun k hk => K2.out.cell (HBx.out.cell k hk) zw, fun k => (World.frozen?_of_block (K2.out.block w.heap.size HBx.out.lt zw)).trans (HBx.out.frozen k)⟩
    have HB2 := Lib.hid hb2; clear hb2
    have Y1 := Lib.hid (show (H.map (Value.int .i64)).length = Nat.min 5 n by rw [List.length_map, HL.out.2, ← HN.out]; exact (Nat.min_eq_right (by omega)).symm)
    have Y2 := Lib.hid (show ∀ j v, (H.map (Value.int .i64))[j]? = some v → W2.drew.cell? ((⟨w.heap.size, 0, none⟩ : Addr).add j) = some v from fun j v hv => by
      have hj : j < H.length := by simpa using (List.getElem?_eq_some_iff.1 hv).1
      have ha : (⟨w.heap.size, 0, none⟩ : Addr).add j = ⟨w.heap.size, j, none⟩ := by rw [Addr.add_mid, Nat.zero_add]
      rw [ha, World.cell?_drew, HB2.out.cell j (by have := HL.out; omega)]
      simpa [List.getElem?_eq_getElem hj] using hv)
    have Y3 := Lib.hid (show 0 + (H.map (Value.int .i64)).length ≤ ((List.replicate n (0 : Int)).map (Value.int .i64)).length by have := HN.out; have := HL.out.2; simp; omega)
    have Y4 := Lib.hid (show ∀ v ∈ H.map (Value.int .i64), v.oneCell' = true from fun v hv => by simp at hv; obtain ⟨z, _, rfl⟩ := hv; rfl)
    go_region_law (refine step_copy_to rfl (.tmp 18) (.tmp 19) 22 22 rfl 3 Try.underlying22 (by kernel_rfl) h 0 _ _ ⟨w.heap.size, 0, none⟩ _ _ rfl rfl ((List.replicate n (0 : Int)).map (Value.int .i64)) 3 hh2.out (H.map (Value.int .i64)) Y1.out Y2.out Y3.out Y4.out ?_; intro W3 HG3 hC3)
    have c0 : W3.cell? ⟨B, 0, none⟩ = some (.slice (some ⟨g, 0, none⟩) n n) := hC3.cell d0 e5
    have c1 : W3.cell? ⟨B, 1, none⟩ = some (.slice (some ⟨h, 0, none⟩) n n) := hC3.cell d1 e5
    obtain ⟨r0, r1, f0, f1⟩ := R2.out
    have zh : w.heap.size + 1 ≠ h := by omega
    have r0' : W3.cell? ⟨w.heap.size + 1, 0, none⟩ = some (.slice none 0 0) := hC3.cell (K2.out.cell r0 zr) zh
    have r1' : W3.cell? ⟨w.heap.size + 1, 1, none⟩ = some (.slice none 0 0) := hC3.cell (K2.out.cell r1 zr) zh
    have f0' : W3.frozen? ⟨w.heap.size + 1, 0, none⟩ = false := hC3.frz (K2.out.cell r0 zr) (K2.out.frz r0 f0 zr) zh
    have f1' : W3.frozen? ⟨w.heap.size + 1, 1, none⟩ = false := hC3.frz (K2.out.cell r1 zr) (K2.out.frz r1 f1 zr) zh
    have K3 := Lib.hid hC3; clear hC3 d0 d1 r0 r1 f0 f1
    go_wp2
    have nn : New w W3 := by
      have := Chg.new (N1.out.trans N2.out) K2.out (fun i hi => by omega)
      exact Chg.new this.drew K3.out (fun i hi => by omega)
    have zz : wc.heap.size ≤ W3.heap.size := Nat.le_trans K2.out.size K3.out.size
    refine bodyPost_ret (v := .agg #[.slice (some ⟨g, 0, none⟩) n n, .slice (some ⟨h, 0, none⟩) n n]) (by simp [results, Try.results41, go_sem, r0', r1']) rfl ⟨_, _, rfl, ⟨?_, ?_, ?_⟩, (by repeat (first | with_reducible exact New.refl _ | with_reducible assumption | refine New.drewN ?_ _ | refine New.drew ?_ | refine New.alloc ?_ _ | refine New.setCell ?_ (by first | omega | (simp; omega) | (simp; done)) _ | (refine New.trans ?_ (by assumption))))⟩
    · have hg3 := K3.out.own (show W2.drew.heap[g]? = _ from HG2.out) e6
      have hlt : g < W3.heap.size := (Array.getElem?_eq_some_iff.1 hg3).1
      exact (((Own.of_cells (lo := w.heap.size + 1 + 1) (hi := W3.heap.size) HN.out (by simp) (by omega) (by omega) hlt hg3).setCell (.inl (by simp)) _).setCell (.inl (by simp)) _).mono (by omega) (by simp)
    · have hlt : h < W3.heap.size := (Array.getElem?_eq_some_iff.1 HG3.out).1
      exact (((Own.of_cells (lo := w.heap.size + 1 + 1) (hi := W3.heap.size) (HN.out.trans HL.out.2.symm) (by simp) (by omega) (by omega) hlt HG3.out).setCell (.inl (by simp)) _).setCell (.inl (by simp)) _).mono (by omega) (by simp)
    · intro _ _ e
      simp [blkOf] at e
      exact e6 e
end Go.Proofs.Ytilepckgcgdjgaa
