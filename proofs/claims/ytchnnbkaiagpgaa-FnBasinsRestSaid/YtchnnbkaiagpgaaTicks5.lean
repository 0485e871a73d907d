/- All ticks of the program's row. -/
import Derived.Test.YtchnnbkaiagpgaaTick
namespace Go.Proofs.Ytchnnbkaiagpgaa
open Go.RowKit Go.Conc

theorem newA_full (l : List (Int × Int × Int)) (x : Int) : newA l x l.length = basA (tickL l x) := by
  funext j
  unfold newA basA
  by_cases h : j < l.length
  · rw [if_pos h, tickL_get _ _ _ h]
  · rw [if_neg h, List.getElem?_eq_none (by omega), List.getElem?_eq_none (by rw [tickL_length]; omega)]
/-- The cells that the tick j leaves. -/
def tkAt (l : List (Int × Int × Int)) (xs : List Int) (j : Nat) : List Value := tkC (basA (rowK l xs (j + 1))) l.length (hadA (rowK l xs j) (xs[j]?.getD 0) l.length) (giveK l xs j)
theorem tkAt_length (l : List (Int × Int × Int)) (xs : List Int) (j : Nat) : (tkAt l xs j).length = 26 := rfl
theorem splice_in {α : Type} (cs vs : List α) (o q : Nat) (h : o + vs.length ≤ cs.length) (hq : q < vs.length) : (splice cs o vs)[o + q]? = vs[q]? := by
  unfold splice
  rw [List.getElem?_append_right (by rw [List.length_take]; omega), List.length_take, show o + q - min o cs.length = q by omega, List.getElem?_append_left hq]
theorem splice_before {α : Type} (cs vs : List α) (o i : Nat) (h : o ≤ cs.length) (hi : i < o) : (splice cs o vs)[i]? = cs[i]? := by
  unfold splice
  rw [List.getElem?_append_left (by rw [List.length_take]; omega), List.getElem?_take, if_pos hi]
/-- The first k ticks lie in the row. -/
structure TksAt (l : List (Int × Int × Int)) (xs : List Int) (cs : List Value) (k n : Nat) : Prop where
  len : cs.length = n * 26
  le : k ≤ n
  at' : ∀ j, j < k → ∀ q v, (tkAt l xs j)[q]? = some v → cs[j * 26 + q]? = some v
theorem TksAt.put {l : List (Int × Int × Int)} {xs : List Int} {cs : List Value} {k n : Nat} (h : TksAt l xs cs k n) (hk : k < n) : TksAt l xs (splice cs (k * 26) (tkAt l xs k)) (k + 1) n := by
  have hl := h.len
  have h26 := tkAt_length l xs k
  have fit : k * 26 + (tkAt l xs k).length ≤ cs.length := by omega
  refine ⟨by rw [length_splice _ _ _ fit]; exact hl, by omega, fun j hj q v hv => ?_⟩
  have hq : q < 26 := by have := (List.getElem?_eq_some_iff.1 hv).1; rw [tkAt_length] at this; exact this
  by_cases e : j = k
  · subst e
    rw [splice_in _ _ _ _ fit (by omega)]
    exact hv
  · rw [splice_before _ _ _ _ (by omega) (by omega)]
    exact h.at' j (by omega) q v hv

theorem tick_at (w : World) (l : List (Int × Int × Int)) (xs : List Int) (k m : Nat) (hm : m = l.length) (hl : RowOk (rowK l xs k)) (h0 : 0 ≤ xs[k]?.getD 0) (h1 : xs[k]?.getD 0 ≤ 1000) :
    Calls Try.prog 62 #[.agg (stC (basA (rowK l xs k)) (m : Int)).toArray, .int .i64 (xs[k]?.getD 0)] w fun e w' => e = .returned (.agg (tkAt l xs k).toArray) ∧ New w w' := by
  have h := tick_any w (rowK l xs k) (xs[k]?.getD 0) hl h0 h1
  have e1 : rowV (rowK l xs k) = .agg (stC (basA (rowK l xs k)) (m : Int)).toArray := by
    show Value.agg (stC (basA (rowK l xs k)) ((rowK l xs k).length : Int)).toArray = _
    rw [rowK_length, hm]
  have e2 : tkV (newA (rowK l xs k) (xs[k]?.getD 0) (rowK l xs k).length) ((rowK l xs k).length : Int) (hadA (rowK l xs k) (xs[k]?.getD 0) (rowK l xs k).length) (giveL (rowK l xs k) (xs[k]?.getD 0)) = .agg (tkAt l xs k).toArray := by
    rw [newA_full, rowK_length]
    rfl
  rw [e1, e2] at h
  exact h

theorem Try.infoTick : (Try.prog.info? 75).map (fun i => (i.zero, i.size, i.bytes)) = some (some (.agg #[.int .i64 0, .int .i64 0, .int .i64 0, .int .i64 0, .int .i64 0, .int .i64 0, .int .i64 0, .int .i64 0, .int .i64 0, .int .i64 0, .int .i64 0, .int .i64 0, .int .i64 0, .int .i64 0, .int .i64 0, .int .i64 0, .int .i64 0, .int .i64 0, .int .i64 0, .int .i64 0, .int .i64 0, .int .i64 0, .int .i64 0, .int .i64 0, .int .i64 0, .int .i64 0]), 26, 208) := by kernel_rfl
theorem run_maketicks {n : Nat} (hn : n ≤ 1048576) (w : World) :
    (Instr.makeSlice 67 (.int .i64 (n : Int)) (.int .i64 (n : Int))).run Try.prog w = .ok (.slice (some ⟨w.heap.size, 0, none⟩) n n) (w.alloc (.cells (madeCells #[.int .i64 0, .int .i64 0, .int .i64 0, .int .i64 0, .int .i64 0, .int .i64 0, .int .i64 0, .int .i64 0, .int .i64 0, .int .i64 0, .int .i64 0, .int .i64 0, .int .i64 0, .int .i64 0, .int .i64 0, .int .i64 0, .int .i64 0, .int .i64 0, .int .i64 0, .int .i64 0, .int .i64 0, .int .i64 0, .int .i64 0, .int .i64 0, .int .i64 0, .int .i64 0] (n * 26)) 75)) := by
  obtain ⟨i, hi, hzz⟩ := Option.map_eq_some_iff.1 Try.infoTick
  simp only [Prod.mk.injEq] at hzz
  obtain ⟨hz, hs, hb⟩ := hzz
  have hr := run_make (P := Try.prog) w 67 75 i _ Try.underlying67 hi hz .i64 .i64 n n (by omega) (Int.le_refl _) (by rw [hb]; omega) (by omega)
  rw [hs] at hr
  simp only [Int.toNat_natCast] at hr
  exact hr

set_option maxRecDepth 100000 in
set_option maxHeartbeats 4000000 in
theorem ticks_any (w : World) (l : List (Int × Int × Int)) (aa : Option Addr) (n ca : Nat) (xs : List Int) (hx : Ints w aa n ca xs) (hl : RowOk l) (hf : FlowOk xs) :
    Calls Try.prog 72 #[rowV l, .slice aa n ca] w fun e w' => ∃ B cs, e = .returned (.slice (some ⟨B, 0, none⟩) n n) ∧ WB w' B cs 75 ∧ TksAt l xs cs n n ∧ w.heap.size ≤ B ∧ New w w' := by
  have HN := Lib.hid hx.1
  have n60 : n ≤ 60 := by have := hx.1; have := hf.1; omega
  have HX := Lib.hid hx; clear hx
  have HL := Lib.hid hl; clear hl
  have HF := Lib.hid hf; clear hf
  obtain ⟨m, hm⟩ : ∃ m : Nat, m = l.length := ⟨_, rfl⟩
  have HM := Lib.hid hm
  have er : rowV l = Value.agg (stC (basA l) (m : Int)).toArray := by show Value.agg (stC (basA l) (l.length : Int)).toArray = _; rw [hm]
  rw [er]
  clear er hm
  obtain ⟨w1, hw1⟩ : ∃ w1, w1 = w.alloc (.cells (stC (basA l) (m : Int)).toArray 72) := ⟨_, rfl⟩
  have b1 : WB w1 w.heap.size (stC (basA l) m) 72 := by rw [hw1]; exact heap_alloc_new _ _
  have n1 : New w w1 := by rw [hw1]; exact (by repeat (first | with_reducible exact New.refl _ | with_reducible assumption | refine New.drewN ?_ _ | refine New.drew ?_ | refine New.alloc ?_ _ | refine New.setCell ?_ (by first | omega | (simp; omega) | (simp; done)) _ | (refine New.trans ?_ (by assumption))))
  have HW1 := Lib.hid hw1; clear hw1
  have N1 := Lib.hid n1; clear n1
  have B1 := Lib.hid b1; clear b1
  have hmk := run_maketicks (show n ≤ 1048576 by omega)
  go_enter Try.func72, Try.ntmps72
  go_upto_region 1 with fail
  rw [← HW1.out]
  go_upto_region 2 with fail
  obtain ⟨w2, hw2⟩ : ∃ w2, w2 = w1.alloc (.cells (madeCells #[.int .i64 0, .int .i64 0, .int .i64 0, .int .i64 0, .int .i64 0, .int .i64 0, .int .i64 0, .int .i64 0, .int .i64 0, .int .i64 0, .int .i64 0, .int .i64 0, .int .i64 0, .int .i64 0, .int .i64 0, .int .i64 0, .int .i64 0, .int .i64 0, .int .i64 0, .int .i64 0, .int .i64 0, .int .i64 0, .int .i64 0, .int .i64 0, .int .i64 0, .int .i64 0] (n * 26)) 75) := ⟨_, rfl⟩
  rw [← hw2]
  have b2 : WB w2 w1.heap.size (madeCells #[.int .i64 0, .int .i64 0, .int .i64 0, .int .i64 0, .int .i64 0, .int .i64 0, .int .i64 0, .int .i64 0, .int .i64 0, .int .i64 0, .int .i64 0, .int .i64 0, .int .i64 0, .int .i64 0, .int .i64 0, .int .i64 0, .int .i64 0, .int .i64 0, .int .i64 0, .int .i64 0, .int .i64 0, .int .i64 0, .int .i64 0, .int .i64 0, .int .i64 0, .int .i64 0] (n * 26)).toList 75 := WB.of_array (by rw [hw2]; exact heap_alloc_new _ _)
  have n2 : New w1 w2 := by rw [hw2]; exact (by repeat (first | with_reducible exact New.refl _ | with_reducible assumption | refine New.drewN ?_ _ | refine New.drew ?_ | refine New.alloc ?_ _ | refine New.setCell ?_ (by first | omega | (simp; omega) | (simp; done)) _ | (refine New.trans ?_ (by assumption))))
  have K0 := Lib.hid (show TksAt l xs (madeCells #[.int .i64 0, .int .i64 0, .int .i64 0, .int .i64 0, .int .i64 0, .int .i64 0, .int .i64 0, .int .i64 0, .int .i64 0, .int .i64 0, .int .i64 0, .int .i64 0, .int .i64 0, .int .i64 0, .int .i64 0, .int .i64 0, .int .i64 0, .int .i64 0, .int .i64 0, .int .i64 0, .int .i64 0, .int .i64 0, .int .i64 0, .int .i64 0, .int .i64 0, .int .i64 0] (n * 26)).toList 0 n from ⟨by rw [Array.length_toList, size_madeCells], Nat.zero_le _, fun j hj => absurd hj (by omega)⟩)
  have B2 := Lib.hid b2; clear b2
  have N2 := Lib.hid n2; clear n2
  clear hw2 hmk HW1
  go_wp2_with fail
  have ne := Lib.hid B1.out.lt
  go_loopw [13] (fun i wr => ∃ (k : Nat) (cs : List Value), k ≤ n ∧ i = .int .i64 k ∧ WB wr w.heap.size (stC (basA (rowK l xs k)) m) 72 ∧ WB wr w1.heap.size cs 75 ∧ TksAt l xs cs k n ∧ New w wr) (fun i _ => n - (intOf i).toNat)
  case atStart => exact ⟨0, _, Nat.zero_le _, rfl, B1.out.new N2.out, B2.out, K0.out, N1.out.trans N2.out⟩
  case round =>
    obtain ⟨k, cs, hk, rfl, hs, hc, ht, hnw⟩ := hrel
    have SB := Lib.hid hs; clear hs
    have CB := Lib.hid hc; clear hc
    have TA := Lib.hid ht; clear ht
    have NW := Lib.hid hnw; clear hnw K0 B1 B2
    by_cases hlt : k < n
    · obtain ⟨b, o, rfl, hcl, _⟩ := (HX.out.new NW.out).at hlt
      have KX := Lib.hid (show k < xs.length by have := HN.out; omega)
      have xb := HF.out.2 k KX.out
      have RK := Lib.hid (rowK_ok HL.out HF.out k (by have := KX.out; omega))
      have LK := Lib.hid (rowK_length l xs k)
      go_wp2_with (refine wpList_load_blk rfl 72 (.tmp 2) rfl w.heap.size 0 rfl _ (stC (basA (rowK l xs k)) m) 72 SB.out (fun j v hv => by rw [Nat.zero_add]; exact hv) _ Try.underlying72 rfl (by kernel_rfl) ?_)
      refine (tick_at wr l xs k m HM.out RK.out xb.1 xb.2).mono ?_
      rintro e w4 ⟨rfl, n4⟩
      have SB4 := Lib.hid (SB.out.new n4)
      have CB4 := Lib.hid (CB.out.new n4)
      have N4 := Lib.hid (NW.out.trans n4)
      clear n4 hcl
      have FT := Lib.hid (show k * 26 + (tkAt l xs k).length ≤ cs.length by rw [TA.out.len, tkAt_length]; omega)
      go_upto_region 6 with ((with_reducible (show wpList _ _ _ ({ dst := none, op := .store _ _ _, type := _, pos := _, after := _, guard := _ } :: _) _ _)); go_must (refine wpList_store_blk rfl 75 (.tmp 23) (.tmp 22) rfl w1.heap.size (k * 26) cs (tkAt l xs k) 75 rfl rfl CB4.out FT.out (by kernel_rfl) (tkC_one _ _ _ _) ?_); intro w5 hb_ hc_; have CB5 := Lib.hid hb_.out; have SB5 := Lib.hid (SB4.out.chg hc_ (fun e => by have := ne.out; omega)); have N5 := Lib.hid (Chg.new N4.out hc_ (fun i hi => by have := ne.out; omega)); have TA5 := Lib.hid (TA.out.put hlt); clear hb_ hc_)
      have PT := Lib.hid (show ∀ (j : Nat) (v : Value), (stC (basA (rowK l xs (k + 1))) (m : Int))[j]? = some v → (splice cs (k * 26) (tkAt l xs k))[k * 26 + j]? = some v from fun j v hv => TA5.out.at' k (by omega) j v (by unfold tkAt; rw [← HM.out]; have := tkC_state (basA (rowK l xs (k + 1))) m (hadA (rowK l xs k) (xs[k]?.getD 0) m) (giveK l xs k) j v hv; rw [Nat.zero_add] at this; exact this))
      go_wp2_with (first | (refine wpList_load_blk rfl 72 (.tmp 27) rfl w1.heap.size (k * 26) rfl _ (stC (basA (rowK l xs (k + 1))) m) 75 CB5.out PT.out _ Try.underlying72 rfl (by kernel_rfl) ?_) | ((with_reducible (show wpList _ _ _ ({ dst := none, op := .store _ _ _, type := _, pos := _, after := _, guard := _ } :: _) _ _)); go_must (refine wpList_store_blk rfl 72 (.tmp 2) (.tmp 28) rfl w.heap.size 0 (stC (basA (rowK l xs k)) m) (stC (basA (rowK l xs (k + 1))) m) 72 rfl rfl SB5.out (by simp [stC_length]) (by kernel_rfl) (stC_one _ _) ?_); intro w6 hb_ hc_; have SB6 := Lib.hid (WB.eqv hb_.out (splice_zero _ _ rfl)); have CB6 := Lib.hid (CB5.out.chg hc_ (fun e => by have := ne.out; omega)); have N6 := Lib.hid (Chg.new N5.out hc_ (fun i hi => by omega)); clear hb_ hc_))
      go_roundw
      case rel => exact ⟨k + 1, _, by omega, by go_num, SB6.out, CB6.out, TA5.out, N6.out⟩
      case measure => simp [intOf]; omega
    · obtain rfl : k = n := by omega
      go_wp2_with fail
      go_ret
      exact ⟨_, _, rfl, CB.out, TA.out, N1.out.size, NW.out⟩

theorem ticksOf_any (w : World) (aa : Option Addr) (n ca : Nat) (l : List (Int × Int × Int)) (ab : Option Addr) (m cb : Nat) (xs : List Int) (ha : Basins w aa n ca l) (hx : Ints w ab m cb xs) :
    Calls Try.prog 50 #[.slice aa n ca, .slice ab m cb] w fun e w' =>
      (askB l xs = true ∧ ∃ B cs, e = .returned (.tuple #[.slice (some ⟨B, 0, none⟩) m m, .bool true]) ∧ WB w' B cs 75 ∧ TksAt l xs cs m m ∧ w.heap.size ≤ B ∧ New w w') ∨
      (askB l xs = false ∧ e = .returned (.tuple #[.slice none 0 0, .bool false]) ∧ New w w') := by
  have HN := Lib.hid ha.1
  have HA := Lib.hid ha; clear ha
  have HX := Lib.hid hx; clear hx
  by_cases h1 : rowB l = true
  · by_cases h2 : flowB xs = true
    · have HR := Lib.hid (rowB_iff.1 h1)
      have HF := Lib.hid (flowB_iff.1 h2)
      have AS := Lib.hid (show askB l xs = true by unfold askB; rw [h1, h2]; rfl)
      have R1 : 1 ≤ n := by have := HR.out.1; have := HN.out; omega
      have R6 : n ≤ 6 := by have := HR.out.2.1; have := HN.out; omega
      go_enter Try.func50, Try.ntmps50
      go_wp2_with fail
      refine (iIsRow_any _ _ _ _ l HA.out).mono ?_
      rintro e w1 ⟨rfl, n1⟩
      have N1 := Lib.hid n1; clear n1
      go_wp2_with fail
      refine (iAreFlows_any _ _ _ _ xs (HX.out.new N1.out)).mono ?_
      rintro e w2 ⟨rfl, n2⟩
      have N2 := Lib.hid (N1.out.trans n2); clear n2
      go_wp2_with fail
      refine (stateOf_any _ _ _ _ l (HA.out.new N2.out) R1 R6).mono ?_
      rintro e w3 ⟨rfl, n3⟩
      have N3 := Lib.hid (N2.out.trans n3); clear n3
      go_wp2_with fail
      refine (ticks_any _ l _ _ _ xs (HX.out.new N3.out) HR.out HF.out).mono ?_
      rintro e w4 ⟨B, cs, rfl, hb, ht, hlo, n4⟩
      go_wp2_with fail
      go_ret2
      exact .inl ⟨AS.out, B, cs, rfl, hb, ht, by have := N3.out.size; omega, N3.out.trans n4⟩
    · have h2f : flowB xs = false := bool_no h2
      have AS := Lib.hid (show askB l xs = false by unfold askB; rw [h2f]; simp)
      go_enter Try.func50, Try.ntmps50
      go_wp2_with fail
      refine (iIsRow_any _ _ _ _ l HA.out).mono ?_
      rintro e w1 ⟨rfl, n1⟩
      have N1 := Lib.hid n1; clear n1
      go_wp2_with fail
      refine (iAreFlows_any _ _ _ _ xs (HX.out.new N1.out)).mono ?_
      rintro e w2 ⟨rfl, n2⟩
      have N2 := Lib.hid (N1.out.trans n2); clear n2
      go_wp2_with fail
      go_ret2
      exact .inr ⟨AS.out, rfl, N2.out⟩
  · have h1f : rowB l = false := bool_no h1
    have AS := Lib.hid (show askB l xs = false by unfold askB; rw [h1f]; rfl)
    go_enter Try.func50, Try.ntmps50
    go_wp2_with fail
    refine (iIsRow_any _ _ _ _ l HA.out).mono ?_
    rintro e w1 ⟨rfl, n1⟩
    have N1 := Lib.hid n1; clear n1
    go_wp2_with fail
    go_ret2
    exact .inr ⟨AS.out, rfl, N1.out⟩
end Go.Proofs.Ytchnnbkaiagpgaa
