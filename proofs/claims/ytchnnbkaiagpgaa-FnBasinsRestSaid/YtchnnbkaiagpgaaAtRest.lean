/- The program's row at rest. -/
import Derived.Test.YtchnnbkaiagpgaaEq19
namespace Go.Proofs.Ytchnnbkaiagpgaa
open Go.RowKit Go.Conc

theorem exec_eql_state {o : Oper} {a : Act} {w : World} (x y : Operand) (ho : o.op = .binOp .eql 72 x y 72) (f g : Nat → Int × Int × Int) (n m : Int) (hx : a.eval x = stV f n) (hy : a.eval y = stV g m) (b : Bool) (hb : (eq6 f g && decide (n = m)) = b) :
    (execOp a.eval o).run Try.prog w = .ok (.value (.bool b)) w := by
  subst hb
  have h1 := run_eqGuard_agg (P := Try.prog) w .eql 72 x y (stC f n).toArray (stC g m).toArray (by kernel_rfl)
  have h2 := run_eql_struct (P := Try.prog) w 72 (stC f n).toArray (stC g m).toArray
  have h3 := run_eq_state w f g n m
  simp [execOp, ho, hx, hy, h1, h2, h3]
theorem eq6_iff {l l' : List (Int × Int × Int)} (h : l'.length = l.length) (h6 : l.length ≤ 6) : eq6 (basA l') (basA l) = true ↔ l' = l := by
  constructor
  · intro e
    simp only [eq6, Bool.and_eq_true, decide_eq_true_eq] at e
    obtain ⟨e0, e1, e2, e3, e4, e5⟩ := e
    have key : ∀ j, j < 6 → basA l' j = basA l j := fun j hj => by
      match j, hj with
      | 0, _ => exact e0
      | 1, _ => exact e1
      | 2, _ => exact e2
      | 3, _ => exact e3
      | 4, _ => exact e4
      | 5, _ => exact e5
    apply List.ext_getElem h
    intro j h1 h2
    have := key j (by omega)
    simpa [basA, List.getElem?_eq_getElem h1, List.getElem?_eq_getElem h2] using this
  · rintro rfl
    simp [eq6]

theorem tick_go (w : World) (l : List (Int × Int × Int)) (x : Int) (n m : Nat) (hm : m = l.length) (hl : RowOk l) (h0 : 0 ≤ x) (h1 : x ≤ 1000) :
    Calls Try.prog 62 #[.agg (stC (basA (goK x l n)) (m : Int)).toArray, .int .i64 x] w fun e w' => ∃ hh gg, e = .returned (.agg (tkC (basA (goK x l (n + 1))) (m : Int) hh gg).toArray) ∧ New w w' := by
  have h := tick_any w (goK x l n) x (goK_ok hl h0 n) h0 h1
  have e1 : rowV (goK x l n) = .agg (stC (basA (goK x l n)) (m : Int)).toArray := by
    show Value.agg (stC (basA (goK x l n)) ((goK x l n).length : Int)).toArray = _
    rw [goK_length, hm]
  rw [e1, newA_full, goK_length, ← hm] at h
  exact h.mono fun e w' q => ⟨_, _, q.1, q.2⟩

theorem res_rest {tmps : Array Value} {W : World} {R : Nat} {cs : List Value} {v : Value} (ht : tmps[4]?.getD undef = .pointer (some ⟨R, 0, none⟩)) (hv : tmps[5]?.getD undef = v) (h : WB W R cs 72) (hl : cs.length = 19) :
    (results Try.f68 tmps).run Try.prog W = .ok (.tuple #[.agg cs.toArray, v]) W := by
  have hr := run_loadVar_mid (P := Try.prog) W R 0 72 cs _ (h.range 0 fun j v hv => by rw [Nat.zero_add]; exact hv) Try.underlying72 rfl ((show (Try.prog.info? 72).map (·.size) = some 19 by kernel_rfl).trans (by rw [hl]))
  simp [results, Try.results68, asAddr, ht, hr, hv]

set_option maxRecDepth 100000 in
set_option maxHeartbeats 4000000 in
theorem atRest_any (w : World) (l : List (Int × Int × Int)) (x : Int) (hl : RowOk l) (h0 : 0 ≤ x) (h1 : x ≤ 1000) :
    Calls Try.prog 68 #[rowV l, .int .i64 x] w fun e w' => ∃ N : Nat, Rest x l N ∧ N < 1010000000000000000 ∧ e = .returned (.tuple #[rowV (goK x l N), .int .i64 (N : Int)]) ∧ New w w' := by
  obtain ⟨m, hm⟩ : ∃ m : Nat, m = l.length := ⟨_, rfl⟩
  have HM := Lib.hid hm
  have l6 := hl.2.1
  have HL := Lib.hid hl; clear hl
  have er : rowV l = Value.agg (stC (basA (goK x l 0)) (m : Int)).toArray := by show Value.agg (stC (basA l) (l.length : Int)).toArray = _; rw [hm]; rfl
  rw [er]
  clear er hm
  obtain ⟨w1, hw1⟩ : ∃ w1, w1 = (w.alloc (.cells (stC (basA (goK x l 0)) (m : Int)).toArray 72)).alloc (.cells #[.int .i64 0, .int .i64 0, .int .i64 0, .int .i64 0, .int .i64 0, .int .i64 0, .int .i64 0, .int .i64 0, .int .i64 0, .int .i64 0, .int .i64 0, .int .i64 0, .int .i64 0, .int .i64 0, .int .i64 0, .int .i64 0, .int .i64 0, .int .i64 0, .int .i64 0] 72) := ⟨_, rfl⟩
  have a0 : WB w1 w.heap.size (stC (basA (goK x l 0)) m) 72 := by rw [hw1]; exact WB.new (heap_alloc_new _ _) (by repeat (first | with_reducible exact New.refl _ | with_reducible assumption | refine New.drewN ?_ _ | refine New.drew ?_ | refine New.alloc ?_ _ | refine New.setCell ?_ (by first | omega | (simp; omega) | (simp; done)) _ | (refine New.trans ?_ (by assumption))))
  have a1 : WB w1 (w.heap.size + 1) (stC (fun _ => (0, 0, 0)) 0) 72 := by rw [hw1]; exact heap_alloc_at (by simp)
  have n1 : New w w1 := by rw [hw1]; exact (by repeat (first | with_reducible exact New.refl _ | with_reducible assumption | refine New.drewN ?_ _ | refine New.drew ?_ | refine New.alloc ?_ _ | refine New.setCell ?_ (by first | omega | (simp; omega) | (simp; done)) _ | (refine New.trans ?_ (by assumption))))
  have HW1 := Lib.hid hw1; clear hw1
  have N1 := Lib.hid n1; clear n1
  have A0 := Lib.hid a0; clear a0
  have A1 := Lib.hid a1; clear a1
  go_enter Try.func68, Try.ntmps68
  go_upto_region 1 with fail
  rw [← HW1.out]
  go_wp2_with fail
  clear HW1
  go_loopw [6] (fun tk wr => ∃ n : Nat, tk = .int .i64 n ∧ WB wr w.heap.size (stC (basA (goK x l n)) m) 72 ∧ WB wr (w.heap.size + 1) (stC (fun _ => (0, 0, 0)) 0) 72 ∧ Way x l n ∧ New w wr) (fun tk _ => muL x (goK x l (intOf tk).toNat))
  case atStart => exact ⟨0, rfl, A0.out, A1.out, Way.zero _ _, N1.out⟩
  case round =>
    obtain ⟨n, rfl, hs, hz, hw, hnw⟩ := hrel
    have SB := Lib.hid hs; clear hs
    have ZB := Lib.hid hz; clear hz
    have WY := Lib.hid hw; clear hw
    have NW := Lib.hid hnw; clear hnw A0 A1 N1
    have sm := WY.out.small HL.out
    go_wp2_with (refine wpList_load_blk rfl 72 (.tmp 2) rfl w.heap.size 0 rfl _ (stC (basA (goK x l n)) m) 72 SB.out (fun j v hv => by rw [Nat.zero_add]; exact hv) _ Try.underlying72 rfl (by kernel_rfl) ?_)
    refine (tick_go wr l x n m HM.out HL.out h0 h1).mono ?_
    rintro e w4 ⟨hh, gg, rfl, n4⟩
    have SB4 := Lib.hid (SB.out.new n4)
    have ZB4 := Lib.hid (ZB.out.new n4)
    have N4 := Lib.hid (NW.out.trans n4); clear n4 SB ZB NW
    obtain ⟨f1, hf1⟩ : ∃ f1, f1 = basA (goK x l (n + 1)) := ⟨_, rfl⟩
    obtain ⟨f0, hf0⟩ : ∃ f0, f0 = basA (goK x l n) := ⟨_, rfl⟩
    have F1 := Lib.hid hf1
    have F0 := Lib.hid hf0
    rw [← hf0] at SB4
    rw [← hf1]
    rw [← hf0]
    clear hf1 hf0
    by_cases hs : tickL (goK x l n) x = goK x l n
    · have EQ := Lib.hid (show eq6 f1 f0 = true by
        rw [F1.out, F0.out, show goK x l (n + 1) = goK x l n from hs]; simp [eq6])
      have RE := Lib.hid (WY.out.rest hs)
      go_upto_region 4 with (first
        | ((with_reducible (show wpList _ _ _ ({ dst := _, op := .field _ _ _, type := _, pos := _, after := _, guard := _ } :: _) _ _)); refine wpList_value_as rfl (.agg (stC f1 (m : Int)).toArray) (by kernel_rfl) ?_)
        | ((with_reducible (show wpList _ _ _ ({ dst := none, op := .store _ _ _, type := _, pos := _, after := _, guard := _ } :: _) _ _)); go_must (refine wpList_store_blk rfl 72 (.tmp 7) (.tmp 13) rfl w4.heap.size 0 (stC (fun _ => (0, 0, 0)) 0) (stC f1 m) 72 rfl rfl (heap_alloc_new _ _) (by simp [stC_length]) (by kernel_rfl) (stC_one _ _) ?_); intro w7 hb_ hc_; have B7 := Lib.hid (WB.eqv hb_.out (splice_zero _ _ rfl)); have SB7 := Lib.hid ((SB4.out.new (w' := w4.alloc _) (by repeat (first | with_reducible exact New.refl _ | with_reducible assumption | refine New.drewN ?_ _ | refine New.drew ?_ | refine New.alloc ?_ _ | refine New.setCell ?_ (by first | omega | (simp; omega) | (simp; done)) _ | (refine New.trans ?_ (by assumption))))).chg hc_ (fun e => by have := SB4.out.lt; omega)); have ZB7 := Lib.hid ((ZB4.out.new (w' := w4.alloc _) (by repeat (first | with_reducible exact New.refl _ | with_reducible assumption | refine New.drewN ?_ _ | refine New.drew ?_ | refine New.alloc ?_ _ | refine New.setCell ?_ (by first | omega | (simp; omega) | (simp; done)) _ | (refine New.trans ?_ (by assumption))))).chg hc_ (fun e => by have := ZB4.out.lt; omega)); have N7 := Lib.hid (Chg.new (w0 := w) (N4.out.trans (by repeat (first | with_reducible exact New.refl _ | with_reducible assumption | refine New.drewN ?_ _ | refine New.drew ?_ | refine New.alloc ?_ _ | refine New.setCell ?_ (by first | omega | (simp; omega) | (simp; done)) _ | (refine New.trans ?_ (by assumption))))) hc_ (fun i hi => by have := N4.out.size; omega)); clear hb_ hc_))
      go_wp2_with (first
        | (refine wpList_load_blk rfl 72 (.tmp 7) rfl w4.heap.size 0 rfl _ (stC f1 m) 72 B7.out (fun j v hv => by rw [Nat.zero_add]; exact hv) _ Try.underlying72 rfl (by kernel_rfl) ?_)
        | (refine wpList_load_blk rfl 72 (.tmp 2) rfl w.heap.size 0 rfl _ (stC f0 m) 72 SB7.out (fun j v hv => by rw [Nat.zero_add]; exact hv) _ Try.underlying72 rfl (by kernel_rfl) ?_)
        | ((with_reducible (show wpList _ _ _ ({ dst := _, op := .binOp .eql _ _ _ _, type := _, pos := _, after := _, guard := _ } :: _) _ _)); go_loud (refine wpList_value_as rfl (.bool true) (exec_eql_state (.tmp 14) (.tmp 15) rfl f1 f0 m m rfl rfl true (by rw [EQ.out]; simp)) ?_))
        | ((with_reducible (show wpList _ _ _ ({ dst := none, op := .store _ _ _, type := _, pos := _, after := _, guard := _ } :: _) _ _)); go_must (refine wpList_store_blk rfl 72 (.tmp 4) (.tmp 17) rfl (w.heap.size + 1) 0 (stC (fun _ => (0, 0, 0)) 0) (stC f0 m) 72 rfl rfl ZB7.out (by simp [stC_length]) (by kernel_rfl) (stC_one _ _) ?_); intro w8 hb_ hc_; have RB := Lib.hid (WB.eqv hb_.out (splice_zero _ _ rfl)); have N8 := Lib.hid (Chg.new N7.out hc_ (fun i hi => by omega)); clear hb_ hc_))
      refine bodyPost_ret (v := .tuple #[.agg (stC f0 m).toArray, .int .i64 (n : Int)]) (res_rest rfl rfl RB.out rfl) rfl ⟨n, RE.out, sm, ?_, N8.out⟩
      have e2 : rowV (goK x l n) = Value.agg (stC f0 (m : Int)).toArray := by
        show Value.agg (stC (basA (goK x l n)) ((goK x l n).length : Int)).toArray = _
        rw [goK_length, ← HM.out, F0.out]
      rw [e2]
    · have EQ := Lib.hid (show eq6 f1 f0 = false by
        have : eq6 f1 f0 = false := bool_no fun e => hs (by rw [F1.out, F0.out] at e; exact (eq6_iff (l := goK x l n) (l' := goK x l (n + 1)) ((goK_length x l (n + 1)).trans (goK_length x l n).symm) (by rw [goK_length]; exact l6)).1 e)
        exact this)
      obtain ⟨wy2, mu2⟩ := WY.out.succ HL.out h0 hs
      have W2 := Lib.hid (And.intro wy2 mu2); clear wy2 mu2
      go_upto_region 4 with (first
        | ((with_reducible (show wpList _ _ _ ({ dst := _, op := .field _ _ _, type := _, pos := _, after := _, guard := _ } :: _) _ _)); refine wpList_value_as rfl (.agg (stC f1 (m : Int)).toArray) (by kernel_rfl) ?_)
        | ((with_reducible (show wpList _ _ _ ({ dst := none, op := .store _ _ _, type := _, pos := _, after := _, guard := _ } :: _) _ _)); go_must (refine wpList_store_blk rfl 72 (.tmp 7) (.tmp 13) rfl w4.heap.size 0 (stC (fun _ => (0, 0, 0)) 0) (stC f1 m) 72 rfl rfl (heap_alloc_new _ _) (by simp [stC_length]) (by kernel_rfl) (stC_one _ _) ?_); intro w7 hb_ hc_; have B7 := Lib.hid (WB.eqv hb_.out (splice_zero _ _ rfl)); have SB7 := Lib.hid ((SB4.out.new (w' := w4.alloc _) (by repeat (first | with_reducible exact New.refl _ | with_reducible assumption | refine New.drewN ?_ _ | refine New.drew ?_ | refine New.alloc ?_ _ | refine New.setCell ?_ (by first | omega | (simp; omega) | (simp; done)) _ | (refine New.trans ?_ (by assumption))))).chg hc_ (fun e => by have := SB4.out.lt; omega)); have ZB7 := Lib.hid ((ZB4.out.new (w' := w4.alloc _) (by repeat (first | with_reducible exact New.refl _ | with_reducible assumption | refine New.drewN ?_ _ | refine New.drew ?_ | refine New.alloc ?_ _ | refine New.setCell ?_ (by first | omega | (simp; omega) | (simp; done)) _ | (refine New.trans ?_ (by assumption))))).chg hc_ (fun e => by have := ZB4.out.lt; omega)); have N7 := Lib.hid (Chg.new (w0 := w) (N4.out.trans (by repeat (first | with_reducible exact New.refl _ | with_reducible assumption | refine New.drewN ?_ _ | refine New.drew ?_ | refine New.alloc ?_ _ | refine New.setCell ?_ (by first | omega | (simp; omega) | (simp; done)) _ | (refine New.trans ?_ (by assumption))))) hc_ (fun i hi => by have := N4.out.size; omega)); clear hb_ hc_))
      go_wp2_with (first
        | (refine wpList_load_blk rfl 72 (.tmp 7) rfl w4.heap.size 0 rfl _ (stC f1 m) 72 B7.out (fun j v hv => by rw [Nat.zero_add]; exact hv) _ Try.underlying72 rfl (by kernel_rfl) ?_)
        | (refine wpList_load_blk rfl 72 (.tmp 2) rfl w.heap.size 0 rfl _ (stC f0 m) 72 SB7.out (fun j v hv => by rw [Nat.zero_add]; exact hv) _ Try.underlying72 rfl (by kernel_rfl) ?_)
        | ((with_reducible (show wpList _ _ _ ({ dst := _, op := .binOp .eql _ _ _ _, type := _, pos := _, after := _, guard := _ } :: _) _ _)); go_loud (refine wpList_value_as rfl (.bool false) (exec_eql_state (.tmp 14) (.tmp 15) rfl f1 f0 m m rfl rfl false (by rw [EQ.out]; simp)) ?_))
        | ((with_reducible (show wpList _ _ _ ({ dst := none, op := .store _ _ _, type := _, pos := _, after := _, guard := _ } :: _) _ _)); go_must (refine wpList_store_blk rfl 72 (.tmp 2) (.tmp 19) rfl w.heap.size 0 (stC f0 m) (stC f1 m) 72 rfl rfl SB7.out (by simp [stC_length]) (by kernel_rfl) (stC_one _ _) ?_); intro w8 hb_ hc_; have RB := Lib.hid (WB.eqv hb_.out (splice_zero _ _ rfl)); have ZB8 := Lib.hid (ZB7.out.chg hc_ (fun e => by omega)); have N8 := Lib.hid (Chg.new N7.out hc_ (fun i hi => by omega)); clear hb_ hc_))
      go_roundw
      case rel => exact ⟨n + 1, by go_num, F1.out ▸ RB.out, ZB8.out, W2.out.1, N8.out⟩
      case measure =>
        have := W2.out.2
        simpa [intOf] using this
end Go.Proofs.Ytchnnbkaiagpgaa
