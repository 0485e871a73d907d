/- The program's functions on the state of a row. -/
import Derived.Test.YtchnnbkaiagpgaaRowSt
import Derived.Deep.RegionHeld3
import Derived.Deep.DeepCutAuto
import Derived.Deep.DeepMust
namespace Go.Proofs.Ytchnnbkaiagpgaa
open Go.RowKit

theorem run_sliceAll_places {w : World} (B : Nat) : (Instr.sliceAt 70 (.pointer (some ⟨B, 0, none⟩)) none none none).run Try.prog w = .ok (.slice (some ⟨B, 0, none⟩) 6 6) w := by
  go_simp

theorem res_state {tmps : Array Value} {W : World} {R : Nat} {cs : List Value} (ht : tmps[2]?.getD undef = .pointer (some ⟨R, 0, none⟩)) (h : WB W R cs 72) (hl : cs.length = 19) : (results Try.f53 tmps).run Try.prog W = .ok (.agg cs.toArray) W := by
  have hr := run_loadVar_mid (P := Try.prog) W R 0 72 cs _ (h.range 0 fun j v hv => by rw [Nat.zero_add]; exact hv) Try.underlying72 rfl ((show (Try.prog.info? 72).map (·.size) = some 19 by kernel_rfl).trans (by rw [hl]))
  simp [results, Try.results53, asAddr, ht, hr]

set_option maxRecDepth 100000 in
theorem stateOf_any (w : World) (aa : Option Addr) (n ca : Nat) (l : List (Int × Int × Int)) (ha : Basins w aa n ca l) (h1 : 1 ≤ n) (h6 : n ≤ 6) :
    Calls Try.prog 53 #[.slice aa n ca] w fun e w' => e = .returned (rowV l) ∧ New w w' := by
  have HL := Lib.hid ha.1
  obtain ⟨b, o, rfl, _⟩ := ha.2.2.2.1 0 (by omega)
  have HA := Lib.hid ha; clear ha
  obtain ⟨w1, hw1⟩ : ∃ w1, w1 = w.alloc (.cells #[.int .i64 0, .int .i64 0, .int .i64 0, .int .i64 0, .int .i64 0, .int .i64 0, .int .i64 0, .int .i64 0, .int .i64 0, .int .i64 0, .int .i64 0, .int .i64 0, .int .i64 0, .int .i64 0, .int .i64 0, .int .i64 0, .int .i64 0, .int .i64 0, .int .i64 0] 72) := ⟨_, rfl⟩
  have b1 : WB w1 w.heap.size (stC (fun _ => (0, 0, 0)) 0) 72 := by rw [hw1]; exact heap_alloc_new _ _
  have n1 : New w w1 := by rw [hw1]; exact (by repeat (first | with_reducible exact New.refl _ | with_reducible assumption | refine New.drewN ?_ _ | refine New.drew ?_ | refine New.alloc ?_ _ | refine New.setCell ?_ (by first | omega | (simp; omega) | (simp; done)) _ | (refine New.trans ?_ (by assumption))))
  have HW1 := Lib.hid hw1; clear hw1
  have N1 := Lib.hid n1; clear n1
  have B1 := Lib.hid b1; clear b1
  go_enter Try.func53, Try.ntmps53
  go_upto_region 1 with fail
  rw [← HW1.out]
  go_upto_region 2 with (first
    | (refine wpList_build_as rfl 72 _ rfl (stC (fun _ => (0, 0, 0)) n) (by kernel_rfl) ?_)
    | ((with_reducible (show wpList _ _ _ ({ dst := none, op := .store _ _ _, type := _, pos := _, after := _, guard := _ } :: _) _ _)); go_must (refine wpList_store_blk rfl 72 (.tmp 3) (.tmp 6) rfl w1.heap.size 0 (stC (fun _ => (0, 0, 0)) 0) (stC (fun _ => (0, 0, 0)) n) 72 rfl rfl (heap_alloc_new _ _) (by simp [stC_length]) (by kernel_rfl) (stC_one _ _) ?_); intro w2 hb2 hc2; have HB2 := Lib.hid (WB.eqv hb2.out (splice_zero _ _ rfl)); have N2 := Lib.hid (Chg.new (w0 := w1) (by repeat (first | with_reducible exact New.refl _ | with_reducible assumption | refine New.drewN ?_ _ | refine New.drew ?_ | refine New.alloc ?_ _ | refine New.setCell ?_ (by first | omega | (simp; omega) | (simp; done)) _ | (refine New.trans ?_ (by assumption)))) hc2 (fun i hi => by omega)); clear hb2 hc2))
  have HB1 := Lib.hid (B1.out.new N2.out)
  have HS := Lib.hid ((HA.out.new (N1.out.trans N2.out)).source)
  have FL := Lib.hid (show (flatBasin l).length = Nat.min n 6 * 3 by rw [flatBasin_length, ← HL.out]; congr 1; exact (Nat.min_eq_left h6).symm)
  have FT := Lib.hid (show 0 + (flatBasin l).length ≤ (stC (fun _ => (0, 0, 0)) n).length by rw [stC_length, flatBasin_length, ← HL.out]; omega)
  go_upto_region 3 with ((with_reducible (show wpList _ _ _ ({ dst := _, op := .call { callee := .builtin .copy, args := _, argTypes := _ }, type := _, pos := _, after := _, guard := _ } :: _) _ _)); go_must (refine wpList_copy_blk rfl (.tmp 8) (.tmp 9) 24 24 rfl 48 Try.underlying24 3 (by kernel_rfl) w1.heap.size 0 6 6 ⟨b, o, none⟩ n ca rfl rfl (stC (fun _ => (0, 0, 0)) n) (flatBasin l) 72 HB2.out FL.out HS.out FT.out (flatBasin_one l) ?_); intro w3 hb3 hc3; have HB3 := Lib.hid (WB.eqv hb3.out (stC_copied l (by have := HL.out; omega) _)); have N3 := Lib.hid (Chg.new (w0 := w1) N2.out hc3 (fun i hi => by omega)); have HB4 := Lib.hid (HB1.out.chg hc3 (fun e => by have := B1.out.lt; omega)); clear hb3 hc3)
  go_wp2_with (first
    | (refine wpList_load_blk rfl 72 (.tmp 3) rfl w1.heap.size 0 rfl _ (stC (basA l) n) 72 HB3.out (fun j v hv => by rw [Nat.zero_add]; exact hv) _ Try.underlying72 rfl (by kernel_rfl) ?_)
    | ((with_reducible (show wpList _ _ _ ({ dst := none, op := .store _ _ _, type := _, pos := _, after := _, guard := _ } :: _) _ _)); go_must (refine wpList_store_blk rfl 72 (.tmp 2) (.tmp 11) rfl w.heap.size 0 (stC (fun _ => (0, 0, 0)) 0) (stC (basA l) n) 72 rfl rfl HB4.out (by simp [stC_length]) (by kernel_rfl) (stC_one _ _) ?_); intro w4 hb4 hc4; have HB5 := Lib.hid (WB.eqv hb4.out (splice_zero _ _ rfl)); have N4 := Lib.hid (Chg.new (w0 := w) (N1.out.trans N3.out) hc4 (fun i hi => by omega)); clear hb4 hc4))
  refine bodyPost_ret (v := rowV l) ?_ rfl ⟨rfl, N4.out⟩
  rw [show rowV l = Value.agg (stC (basA l) (n : Int)).toArray by show Value.agg (stC (basA l) (l.length : Int)).toArray = _; rw [HL.out]]
  exact res_state rfl HB5.out rfl
theorem wpList_value_as {P : Program} {ops : Array Oper} {rest : List Oper} {o : Oper} {a : Act} {w : World} {Q : Exit → Act → World → Prop} (hgd : o.guard = none) (v : Value) (hr : (execOp a.eval o).run P w = .ok (.value v) w)
    (h : wpList P ops Q rest (a.put o.dst v) w) : wpList P ops Q (o :: rest) a w :=
  wpList_plain hgd fun _ hK => by
    unfold Oper.wp
    simp only [hr]
    exact hK _ _ h
theorem WB.of_array {w : World} {B : Nat} {arr : Array Value} {t : TypeId} (h : w.heap[B]? = some (.cells arr t (0, 0))) : WB w B arr.toList t := by simpa [WB] using h
theorem flat_in_st (l : List (Int × Int × Int)) (hl : l.length ≤ 6) (n : Int) : ∀ (j : Nat) (v : Value), (flatBasin l)[j]? = some v → (stC (basA l) n)[j]? = some v := by
  intro j v hv
  rw [← stC_copied l hl n]
  unfold splice
  rw [List.take_zero, List.nil_append, List.getElem?_append_left (List.getElem?_eq_some_iff.1 hv).1]
  exact hv
theorem OwnBasin.of_wb {w : World} {lo hi b n : Nat} {l : List (Int × Int × Int)} (h : WB w b (flatBasin l) 48) (hl : n = l.length) (hn : n ≤ 9223372036854775807) (h1 : lo ≤ b) (h2 : b < hi) : OwnBasin w lo hi (some ⟨b, 0, none⟩) n n l := by
  refine ⟨hl, Nat.le_refl _, hn, .inr ⟨b, fun j => (flatBasin l)[j]?.getD undef, rfl, h1, h2, ⟨_, h, by simp [flatBasin_length, hl], fun i hi => ?_⟩, fun j hj => ?_⟩⟩
  · have : i < (flatBasin l).length := by rw [flatBasin_length]; omega
    simp [List.getElem?_eq_getElem this]
  · obtain ⟨g0, g1, g2⟩ := flatBasin_get l j (by omega)
    simp [g0, g1, g2]

set_option maxRecDepth 100000 in
theorem row_any (w : World) (l : List (Int × Int × Int)) (h1 : 1 ≤ l.length) (h6 : l.length ≤ 6) :
    Calls Try.prog 54 #[rowV l] w fun e w' => ∃ ao n cap, e = .returned (.slice ao n cap) ∧ OwnBasin w' w.heap.size w'.heap.size ao n cap l ∧ New w w' := by
  obtain ⟨n, hn⟩ : ∃ n, n = l.length := ⟨_, rfl⟩
  have HL := Lib.hid hn
  rw [← hn] at h1 h6
  have er : rowV l = Value.agg (stC (basA l) (n : Int)).toArray := by show Value.agg (stC (basA l) (l.length : Int)).toArray = _; rw [hn]
  rw [er]
  obtain ⟨w1, hw1⟩ : ∃ w1, w1 = w.alloc (.cells (stC (basA l) (n : Int)).toArray 72) := ⟨_, rfl⟩
  have b1 : WB w1 w.heap.size (stC (basA l) n) 72 := by rw [hw1]; exact heap_alloc_new _ _
  have n1 : New w w1 := by rw [hw1]; exact (by repeat (first | with_reducible exact New.refl _ | with_reducible assumption | refine New.drewN ?_ _ | refine New.drew ?_ | refine New.alloc ?_ _ | refine New.setCell ?_ (by first | omega | (simp; omega) | (simp; done)) _ | (refine New.trans ?_ (by assumption))))
  have c18 := b1.cell (stC_count (basA l) n)
  have HW1 := Lib.hid hw1; clear hw1 hn er
  have N1 := Lib.hid n1; clear n1
  have B1 := Lib.hid b1; clear b1
  have hmk := run_makeBasin Try.underlying24 (show n ≤ 1048576 by omega)
  go_enter Try.func54, Try.ntmps54
  go_upto_region 1 with fail
  rw [← HW1.out]
  go_upto_region 2 with fail
  obtain ⟨w2, hw2⟩ : ∃ w2, w2 = w1.alloc (.cells (madeCells #[.int .i64 0, .int .i64 0, .int .i64 0] (n * 3)) 48) := ⟨_, rfl⟩
  rw [← hw2]
  have b2 : WB w2 w1.heap.size (madeCells #[.int .i64 0, .int .i64 0, .int .i64 0] (n * 3)).toList 48 := WB.of_array (by rw [hw2]; exact heap_alloc_new _ _)
  have n2 : New w1 w2 := by rw [hw2]; exact (by repeat (first | with_reducible exact New.refl _ | with_reducible assumption | refine New.drewN ?_ _ | refine New.drew ?_ | refine New.alloc ?_ _ | refine New.setCell ?_ (by first | omega | (simp; omega) | (simp; done)) _ | (refine New.trans ?_ (by assumption))))
  have HB2 := Lib.hid b2; clear b2
  have N2 := Lib.hid n2; clear n2
  clear hw2 hmk c18
  have HS := Lib.hid (show ∀ (j : Nat) (v : Value), (flatBasin l)[j]? = some v → w2.cell? ((⟨w.heap.size, 0, none⟩ : Addr).add j) = some v from fun j v hv => by
    rw [Addr.add_mid, Nat.zero_add]
    exact (B1.out.new N2.out).cell (flat_in_st l (by have := HL.out; omega) n j v hv))
  have FL := Lib.hid (show (flatBasin l).length = Nat.min 6 n * 3 by rw [flatBasin_length, ← HL.out]; congr 1; exact (Nat.min_eq_right h6).symm)
  have FT := Lib.hid (show 0 + (flatBasin l).length ≤ (madeCells #[.int .i64 0, .int .i64 0, .int .i64 0] (n * 3)).toList.length by rw [flatBasin_length, ← HL.out, Array.length_toList, size_madeCells]; omega)
  go_wp2_with (first | ((with_reducible (show wpList _ _ _ ({ dst := _, op := .call { callee := .builtin .copy, args := _, argTypes := _ }, type := _, pos := _, after := _, guard := _ } :: _) _ _)); go_must (refine wpList_copy_blk rfl (.tmp 7) (.tmp 9) 24 24 rfl 48 Try.underlying24 3 (by kernel_rfl) w1.heap.size 0 n n ⟨w.heap.size, 0, none⟩ 6 6 rfl rfl _ (flatBasin l) 48 HB2.out FL.out HS.out FT.out (flatBasin_one l) ?_); intro w3 hb3 hc3; have HB3 := Lib.hid (WB.eqv hb3.out (splice_zero _ _ (by rw [flatBasin_length, ← HL.out, Array.length_toList, size_madeCells]))); have N3 := Lib.hid (Chg.new (w0 := w1) N2.out hc3 (fun i hi => by omega)); clear hb3 hc3))
  go_ret
  exact ⟨_, _, _, rfl, OwnBasin.of_wb HB3.out HL.out (by omega) N1.out.size HB3.out.lt, N1.out.trans N3.out⟩

/-- How much the first k places hold. -/
def heldA (f : Nat → Int × Int × Int) : Nat → Int
  | 0 => 0
  | k + 1 => heldA f k + (f k).2.2
theorem heldA_eq (l : List (Int × Int × Int)) (k : Nat) : heldA (basA l) k = heldK l k := by
  induction k with
  | zero => rfl
  | succ k ih => unfold heldA heldK; rw [ih]; rfl

set_option maxRecDepth 100000 in
theorem sum_any (w : World) (f : Nat → Int × Int × Int) (n : Int) (hb : ∀ k, k ≤ 6 → 0 ≤ heldA f k ∧ heldA f k ≤ 1000000) :
    Calls Try.prog 57 #[stV f n] w fun e w' => e = .returned (.int .i64 (heldA f 6)) ∧ New w w' := by
  obtain ⟨w1, hw1⟩ : ∃ w1, w1 = w.alloc (.cells (stC f n).toArray 72) := ⟨_, rfl⟩
  have b1 : WB w1 w.heap.size (stC f n) 72 := by rw [hw1]; exact heap_alloc_new _ _
  have n1 : New w w1 := by rw [hw1]; exact (by repeat (first | with_reducible exact New.refl _ | with_reducible assumption | refine New.drewN ?_ _ | refine New.drew ?_ | refine New.alloc ?_ _ | refine New.setCell ?_ (by first | omega | (simp; omega) | (simp; done)) _ | (refine New.trans ?_ (by assumption))))
  have HW1 := Lib.hid hw1; clear hw1
  have N1 := Lib.hid n1; clear n1
  have B1 := Lib.hid b1; clear b1
  have HB := Lib.hid hb; clear hb
  have PP := Lib.hid (show ∀ (j : Nat) (v : Value), ([.int .i64 (f 0).1, .int .i64 (f 0).2.1, .int .i64 (f 0).2.2, .int .i64 (f 1).1, .int .i64 (f 1).2.1, .int .i64 (f 1).2.2, .int .i64 (f 2).1, .int .i64 (f 2).2.1, .int .i64 (f 2).2.2, .int .i64 (f 3).1, .int .i64 (f 3).2.1, .int .i64 (f 3).2.2, .int .i64 (f 4).1, .int .i64 (f 4).2.1, .int .i64 (f 4).2.2, .int .i64 (f 5).1, .int .i64 (f 5).2.1, .int .i64 (f 5).2.2] : List Value)[j]? = some v → (stC f n)[0 + j]? = some v from fun j v hv => by
    rw [Nat.zero_add]
    show (([.int .i64 (f 0).1, .int .i64 (f 0).2.1, .int .i64 (f 0).2.2, .int .i64 (f 1).1, .int .i64 (f 1).2.1, .int .i64 (f 1).2.2, .int .i64 (f 2).1, .int .i64 (f 2).2.1, .int .i64 (f 2).2.2, .int .i64 (f 3).1, .int .i64 (f 3).2.1, .int .i64 (f 3).2.2, .int .i64 (f 4).1, .int .i64 (f 4).2.1, .int .i64 (f 4).2.2, .int .i64 (f 5).1, .int .i64 (f 5).2.1, .int .i64 (f 5).2.2] : List Value) ++ [.int .i64 n])[j]? = some v
    rw [List.getElem?_append_left (List.getElem?_eq_some_iff.1 hv).1]
    exact hv)
  go_enter Try.func57, Try.ntmps57
  go_upto_region 1 with fail
  rw [← HW1.out]
  go_wp2_with (refine wpList_load_blk rfl 70 (.tmp 6) rfl w.heap.size 0 rfl _ [.int .i64 (f 0).1, .int .i64 (f 0).2.1, .int .i64 (f 0).2.2, .int .i64 (f 1).1, .int .i64 (f 1).2.1, .int .i64 (f 1).2.2, .int .i64 (f 2).1, .int .i64 (f 2).2.1, .int .i64 (f 2).2.2, .int .i64 (f 3).1, .int .i64 (f 3).2.1, .int .i64 (f 3).2.2, .int .i64 (f 4).1, .int .i64 (f 4).2.1, .int .i64 (f 4).2.2, .int .i64 (f 5).1, .int .i64 (f 5).2.1, .int .i64 (f 5).2.2] 72 B1.out PP.out _ Try.underlying70 rfl (by kernel_rfl) ?_)
  go_loopw [3, 8] (fun y i wr => ∃ k : Nat, k ≤ 6 ∧ i = .int .i64 k ∧ y = .int .i64 (heldA f k) ∧ New w1 wr) (fun _ i _ => 6 - (intOf i).toNat)
  case atStart => exact ⟨0, by omega, rfl, rfl, New.refl _⟩
  case round =>
    obtain ⟨k, hk, rfl, rfl, hnw⟩ := hrel
    have NW := Lib.hid hnw; clear hnw
    by_cases hlt : k < 6
    · have h0 := HB.out k (by omega)
      have h1 := HB.out (k + 1) (by omega)
      have e1 : heldA f (k + 1) = heldA f k + (f k).2.2 := rfl
      rw [e1] at h1
      have E1 := Lib.hid e1; clear e1
      have hc : k = 0 ∨ k = 1 ∨ k = 2 ∨ k = 3 ∨ k = 4 ∨ k = 5 := by omega
      rcases hc with rfl | rfl | rfl | rfl | rfl | rfl
      · go_wp2_with ((with_reducible (show wpList _ _ _ ({ dst := _, op := .index _ _ _, type := _, pos := _, after := _, guard := _ } :: _) _ _)); go_must (refine wpList_value_as rfl (.agg #[.int .i64 (f 0).1, .int .i64 (f 0).2.1, .int .i64 (f 0).2.2]) (by kernel_rfl) ?_))
        go_roundw
        case rel => exact ⟨0 + 1, by omega, by go_num, by rw [E1.out], NW.out.trans (by repeat (first | with_reducible exact New.refl _ | with_reducible assumption | refine New.drewN ?_ _ | refine New.drew ?_ | refine New.alloc ?_ _ | refine New.setCell ?_ (by first | omega | (simp; omega) | (simp; done)) _ | (refine New.trans ?_ (by assumption))))⟩
        case measure => simp [intOf]
      · go_wp2_with ((with_reducible (show wpList _ _ _ ({ dst := _, op := .index _ _ _, type := _, pos := _, after := _, guard := _ } :: _) _ _)); go_must (refine wpList_value_as rfl (.agg #[.int .i64 (f 1).1, .int .i64 (f 1).2.1, .int .i64 (f 1).2.2]) (by kernel_rfl) ?_))
        go_roundw
        case rel => exact ⟨1 + 1, by omega, by go_num, by rw [E1.out], NW.out.trans (by repeat (first | with_reducible exact New.refl _ | with_reducible assumption | refine New.drewN ?_ _ | refine New.drew ?_ | refine New.alloc ?_ _ | refine New.setCell ?_ (by first | omega | (simp; omega) | (simp; done)) _ | (refine New.trans ?_ (by assumption))))⟩
        case measure => simp [intOf]
      · go_wp2_with ((with_reducible (show wpList _ _ _ ({ dst := _, op := .index _ _ _, type := _, pos := _, after := _, guard := _ } :: _) _ _)); go_must (refine wpList_value_as rfl (.agg #[.int .i64 (f 2).1, .int .i64 (f 2).2.1, .int .i64 (f 2).2.2]) (by kernel_rfl) ?_))
        go_roundw
        case rel => exact ⟨2 + 1, by omega, by go_num, by rw [E1.out], NW.out.trans (by repeat (first | with_reducible exact New.refl _ | with_reducible assumption | refine New.drewN ?_ _ | refine New.drew ?_ | refine New.alloc ?_ _ | refine New.setCell ?_ (by first | omega | (simp; omega) | (simp; done)) _ | (refine New.trans ?_ (by assumption))))⟩
        case measure => simp [intOf]
      · go_wp2_with ((with_reducible (show wpList _ _ _ ({ dst := _, op := .index _ _ _, type := _, pos := _, after := _, guard := _ } :: _) _ _)); go_must (refine wpList_value_as rfl (.agg #[.int .i64 (f 3).1, .int .i64 (f 3).2.1, .int .i64 (f 3).2.2]) (by kernel_rfl) ?_))
        go_roundw
        case rel => exact ⟨3 + 1, by omega, by go_num, by rw [E1.out], NW.out.trans (by repeat (first | with_reducible exact New.refl _ | with_reducible assumption | refine New.drewN ?_ _ | refine New.drew ?_ | refine New.alloc ?_ _ | refine New.setCell ?_ (by first | omega | (simp; omega) | (simp; done)) _ | (refine New.trans ?_ (by assumption))))⟩
        case measure => simp [intOf]
      · go_wp2_with ((with_reducible (show wpList _ _ _ ({ dst := _, op := .index _ _ _, type := _, pos := _, after := _, guard := _ } :: _) _ _)); go_must (refine wpList_value_as rfl (.agg #[.int .i64 (f 4).1, .int .i64 (f 4).2.1, .int .i64 (f 4).2.2]) (by kernel_rfl) ?_))
        go_roundw
        case rel => exact ⟨4 + 1, by omega, by go_num, by rw [E1.out], NW.out.trans (by repeat (first | with_reducible exact New.refl _ | with_reducible assumption | refine New.drewN ?_ _ | refine New.drew ?_ | refine New.alloc ?_ _ | refine New.setCell ?_ (by first | omega | (simp; omega) | (simp; done)) _ | (refine New.trans ?_ (by assumption))))⟩
        case measure => simp [intOf]
      · go_wp2_with ((with_reducible (show wpList _ _ _ ({ dst := _, op := .index _ _ _, type := _, pos := _, after := _, guard := _ } :: _) _ _)); go_must (refine wpList_value_as rfl (.agg #[.int .i64 (f 5).1, .int .i64 (f 5).2.1, .int .i64 (f 5).2.2]) (by kernel_rfl) ?_))
        go_roundw
        case rel => exact ⟨5 + 1, by omega, by go_num, by rw [E1.out], NW.out.trans (by repeat (first | with_reducible exact New.refl _ | with_reducible assumption | refine New.drewN ?_ _ | refine New.drew ?_ | refine New.alloc ?_ _ | refine New.setCell ?_ (by first | omega | (simp; omega) | (simp; done)) _ | (refine New.trans ?_ (by assumption))))⟩
        case measure => simp [intOf]
    · obtain rfl : k = 6 := by omega
      go_wp2
      go_ret
      exact ⟨rfl, N1.out.trans NW.out⟩

set_option maxRecDepth 100000 in
theorem spilt_any (w : World) (f : Nat → Int × Int × Int) (n : Int) (h : Nat → Int) (g : Int) (k : Nat) (hk : k < 6) (a0 : 0 ≤ (f k).1) (a1 : (f k).1 ≤ 1000000) (c0 : 0 ≤ h k) (c1 : h k ≤ 1000000) :
    Calls Try.prog 55 #[tkV f n h g, .int .i64 k] w fun e w' => e = .returned (.int .i64 (max 0 (h k - (f k).1))) ∧ New w w' := by
  obtain ⟨w1, hw1⟩ : ∃ w1, w1 = w.alloc (.cells (tkC f n h g).toArray 75) := ⟨_, rfl⟩
  have b1 : WB w1 w.heap.size (tkC f n h g) 75 := by rw [hw1]; exact heap_alloc_new _ _
  have n1 : New w w1 := by rw [hw1]; exact (by repeat (first | with_reducible exact New.refl _ | with_reducible assumption | refine New.drewN ?_ _ | refine New.drew ?_ | refine New.alloc ?_ _ | refine New.setCell ?_ (by first | omega | (simp; omega) | (simp; done)) _ | (refine New.trans ?_ (by assumption))))
  obtain ⟨g0, g1, g2, g3⟩ := tkC_get f n h g k hk
  have d0 := b1.cell g0
  have d3 := b1.cell g3
  have HW1 := Lib.hid hw1; clear hw1
  have N1 := Lib.hid n1; clear n1
  clear b1 g0 g1 g2 g3
  obtain ⟨x, hx⟩ : ∃ x, x = (f k).1 := ⟨_, rfl⟩
  obtain ⟨y, hy⟩ : ∃ y, y = h k := ⟨_, rfl⟩
  rw [← hx] at a0 a1 d0 ⊢
  rw [← hy] at c0 c1 d3 ⊢
  clear hx hy
  go_enter Try.func55, Try.ntmps55
  go_upto_region 1 with fail
  rw [← HW1.out]
  go_wp2
  go_region
  go_wp2
  all_goals
    go_ret
    exact ⟨ret_int (by omega), N1.out.trans (New.refl _).drew⟩
end Go.Proofs.Ytchnnbkaiagpgaa
