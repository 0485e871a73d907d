/- RowAfter and HeldAlong: the model's and the program's. -/
import Derived.Test.YtchnnbkaiagpgaaTicks5
import Derived.Test.YtchnnbkaiagpgaaWeGo
namespace Go.Proofs.Ytchnnbkaiagpgaa
open Go.RowKit Go.Conc

def afterM (l : List (Int × Int × Int)) (xs : List Int) : List (Int × Int × Int) := if askB l xs then rowK l xs xs.length else []
theorem afterM_small (l : List (Int × Int × Int)) (xs : List Int) : (afterM l xs).length ≤ 1048576 := by
  unfold afterM
  split
  · rename_i h
    have := (askB_iff.1 h).1.2.1
    rw [rowK_length]; omega
  · simp

set_option maxRecDepth 100000 in
theorem sRowAfter_any (w : World) (aa : Option Addr) (n ca : Nat) (l : List (Int × Int × Int)) (ab : Option Addr) (m cb : Nat) (xs : List Int) (ha : Basins w aa n ca l) (hx : Ints w ab m cb xs) :
    Calls Try.prog 10 #[.slice aa n ca, .slice ab m cb] w fun e w' => ∃ oa on oc, e = .returned (.tuple #[.slice oa on oc, .bool (askB l xs)]) ∧ OwnBasin w' w.heap.size w'.heap.size oa on oc (afterM l xs) ∧ New w w' := by
  have HM := Lib.hid hx.1
  have HA := Lib.hid ha; clear ha
  have HX := Lib.hid hx; clear hx
  by_cases h : askB l xs = true
  · have HR := Lib.hid (show askB l xs = true ∧ afterM l xs = rowK l xs m from ⟨h, by unfold afterM; rw [if_pos h, HM.out]⟩)
    have HC := Lib.hid (askB_iff.1 h)
    have RK := Lib.hid (rowK_ok HC.out.1 HC.out.2 m (by rw [HM.out]; omega))
    obtain ⟨i1, hj, hy0, hy1, hy2⟩ := info_parts Try.infoBas
    go_enter Try.func10, Try.ntmps10
    go_wp2_with fail
    refine (weAsked_any _ _ _ _ l _ _ _ xs HA.out HX.out).mono ?_
    rintro e w1 ⟨rfl, n1⟩
    have N1 := Lib.hid n1; clear n1
    go_wp2_with fail
    obtain ⟨w2, hw2⟩ : ∃ w2, w2 = w1.alloc (.cells #[] 48) := ⟨_, rfl⟩
    rw [← hw2]
    have k2 : New w1 w2 := by rw [hw2]; exact (by repeat (first | with_reducible exact New.refl _ | with_reducible assumption | refine New.drewN ?_ _ | refine New.drew ?_ | refine New.alloc ?_ _ | refine New.setCell ?_ (by first | omega | (simp; omega) | (simp; done)) _ | (refine New.trans ?_ (by assumption))))
    have o2 : w2.ownsRow w1.heap.size 48 3 (.slice (some ⟨w1.heap.size, 0, none⟩) 0 0) 0 [] := by
      rw [hw2]
      exact ⟨rfl, .inr ⟨w1.heap.size, 0, #[], rfl, Nat.le_refl _, heap_alloc_at rfl, Nat.le_refl _, by unfold maxLen; omega, rfl, rfl⟩⟩
    have K2 := Lib.hid k2; clear k2
    have O2 := Lib.hid o2; clear o2 hw2
    refine (weGo_any _ _ _ _ l _ _ _ xs (HA.out.new (N1.out.trans K2.out)) (HX.out.new (N1.out.trans K2.out)) HC.out.1 HC.out.2).mono ?_
    rintro e w3 ⟨ga, gc, ea, en, ec, sa, sc, ra, rc, rfl, _, ib, _, _, n3⟩
    have hen := ib.1
    have EL := Lib.hid hen
    have e1 : 1 ≤ en := by have := RK.out.1; omega
    have e6 : en ≤ 6 := by have := RK.out.2.1; omega
    obtain ⟨be, oe, rfl, _⟩ := ib.2.2.2.1 0 (by omega)
    have IB := Lib.hid ib; clear ib hen
    have O3 := Lib.hid (ownsRow_new O2.out n3)
    have z3 := (K2.out.trans n3).size
    have N3 := Lib.hid ((N1.out.trans K2.out).trans n3); clear n3
    go_wp2_with (first | ((with_reducible (show wpList _ _ _ ({ dst := _, op := .field _ _ _, type := _, pos := _, after := _, guard := _ } :: _) _ _)); go_must (refine wpList_value_as rfl (.slice (some ⟨be, oe, none⟩) en ec) (by kernel_rfl) ?_)) | (at_builtin; go_must (refine wpList_append_lies _ (by rfl) (.tmp 10) (.tmp 14) 24 (by rfl) w1.heap.size 48 i1 _ 3 24 Try.underlying24 hj hy0 hy1 hy2 rfl (by decide) _ 0 _ (by rfl) O3.out ⟨be, oe, none⟩ en ec (flatBasin (rowK l xs m)) (by rfl) (by rw [flatBasin_length, ← EL.out]) (IB.out.source) (flatBasin_one _) (by omega) (by unfold maxLen; omega) (by omega) (by omega) _ rfl ?_); intro g4 cap4 w4 ho hg hb' hlt'; have O4 := Lib.hid (show w4.ownsRow w1.heap.size 48 3 (.slice (some ⟨g4, 0, none⟩) en cap4) en (flatBasin (rowK l xs m)) by simpa using ho); have N4 := Lib.hid (New.grown (w0 := w) N3.out O3.out N1.out.size hg); clear ho hg hb' hlt'))
    obtain ⟨oa, oc, e4, o4⟩ := OwnBasin.of_row O4.out
    cases e4
    go_ret2
    rw [HR.out.1, HR.out.2]
    exact ⟨_, _, _, by first | rfl | simp, o4.mono N1.out.size (Nat.le_refl _), N4.out⟩
  · have hf := bool_no h
    have HR := Lib.hid (show askB l xs = false ∧ afterM l xs = [] from ⟨hf, by unfold afterM; rw [hf]; rfl⟩)
    go_enter Try.func10, Try.ntmps10
    go_wp2_with fail
    refine (weAsked_any _ _ _ _ l _ _ _ xs HA.out HX.out).mono ?_
    rintro e w1 ⟨rfl, n1⟩
    have N1 := Lib.hid n1; clear n1
    go_wp2_with fail
    go_ret2
    rw [HR.out.1, HR.out.2]
    exact ⟨_, _, _, rfl, OwnBasin.nil _ _ _, N1.out⟩

set_option maxRecDepth 100000 in
set_option maxHeartbeats 2000000 in
theorem iRowAfter_any (w : World) (aa : Option Addr) (n ca : Nat) (l : List (Int × Int × Int)) (ab : Option Addr) (m cb : Nat) (xs : List Int) (ha : Basins w aa n ca l) (hx : Ints w ab m cb xs) :
    Calls Try.prog 9 #[.slice aa n ca, .slice ab m cb] w fun e w' => ∃ oa on oc, e = .returned (.tuple #[.slice oa on oc, .bool (askB l xs)]) ∧ OwnBasin w' w.heap.size w'.heap.size oa on oc (afterM l xs) ∧ New w w' := by
  have HN := Lib.hid ha.1
  have HM := Lib.hid hx.1
  have hmm := hx.2.2.1
  have HA := Lib.hid ha; clear ha
  have HX := Lib.hid hx; clear hx
  go_enter Try.func9, Try.ntmps9
  go_wp2_with fail
  refine (ticksOf_any _ _ _ _ l _ _ _ xs HA.out HX.out).mono ?_
  rintro e w1 (⟨h, B, cs, rfl, hcb, hta, hlo, n1⟩ | ⟨hf, rfl, n1⟩)
  · have HR := Lib.hid (show askB l xs = true ∧ afterM l xs = rowK l xs m from ⟨h, by unfold afterM; rw [if_pos h, HM.out]⟩)
    have HC := Lib.hid (askB_iff.1 h); clear h
    have RK := Lib.hid (rowK_ok HC.out.1 HC.out.2 m (by rw [HM.out]; omega))
    have r1 : 1 ≤ n := by have := HC.out.1.1; have := HN.out; omega
    have r6 : n ≤ 6 := by have := HC.out.1.2.1; have := HN.out; omega
    have m60 : m ≤ 60 := by have := HC.out.2.1; have := HM.out; omega
    have N1 := Lib.hid n1; clear n1
    have zB := Lib.hid hcb.lt
    have TA := Lib.hid hta; clear hta
    go_wp2_with fail
    refine (stateOf_any _ _ _ _ l (HA.out.new N1.out) r1 r6).mono ?_
    rintro e w2 ⟨rfl, n2⟩
    have CB2 := Lib.hid (hcb.new n2); clear hcb
    have z2 := Lib.hid n2.size
    have N2 := Lib.hid (N1.out.trans n2); clear n2 r1 r6
    obtain ⟨q, hq⟩ : ∃ q : Int, q = (l.length : Int) := ⟨_, rfl⟩
    have HQ := Lib.hid hq
    have er : rowV l = Value.agg (stC (basA (rowK l xs 0)) q).toArray := by show Value.agg (stC (basA l) (l.length : Int)).toArray = _; rw [hq]; rfl
    rw [er]
    clear er hq
    go_upto_region 5 with ((with_reducible (show wpList _ _ _ ({ dst := none, op := .store _ _ _, type := _, pos := _, after := _, guard := _ } :: _) _ _)); go_must (refine wpList_store_blk rfl 72 (.tmp 8) (.tmp 20) rfl w2.heap.size 0 (stC (fun _ => (0, 0, 0)) 0) (stC (basA (rowK l xs 0)) q) 72 rfl rfl (heap_alloc_new _ _) (by simp [stC_length]) (by kernel_rfl) (stC_one _ _) ?_); intro w3 hb_ hc_; have HS3 := Lib.hid (WB.eqv hb_.out (splice_zero _ _ rfl)); have CB3 := Lib.hid ((CB2.out.new (w' := w2.alloc _) (by repeat (first | with_reducible exact New.refl _ | with_reducible assumption | refine New.drewN ?_ _ | refine New.drew ?_ | refine New.alloc ?_ _ | refine New.setCell ?_ (by first | omega | (simp; omega) | (simp; done)) _ | (refine New.trans ?_ (by assumption))))).chg hc_ (fun e => by have := CB2.out.lt; omega)); have N3 := Lib.hid (Chg.new (w0 := w) (N2.out.trans (by repeat (first | with_reducible exact New.refl _ | with_reducible assumption | refine New.drewN ?_ _ | refine New.drew ?_ | refine New.alloc ?_ _ | refine New.setCell ?_ (by first | omega | (simp; omega) | (simp; done)) _ | (refine New.trans ?_ (by assumption))))) hc_ (fun i hi => by have := N2.out.size; omega)); clear hb_ hc_)
    go_wp2_with fail
    go_loopw [23] (fun i wr => ∃ k : Nat, k ≤ m ∧ i = .int .i64 k ∧ WB wr w2.heap.size (stC (basA (rowK l xs k)) q) 72 ∧ WB wr B cs 75 ∧ New w wr) (fun i _ => m - (intOf i).toNat)
    case atStart => exact ⟨0, Nat.zero_le _, rfl, HS3.out, CB3.out, N3.out⟩
    case round =>
      obtain ⟨k, hk, rfl, hs, hcb, hnw⟩ := hrel
      have SB := Lib.hid hs; clear hs
      have CB := Lib.hid hcb; clear hcb
      have NW := Lib.hid hnw; clear hnw HS3 CB3 N3
      by_cases hlt : k < m
      · go_upto_region 8 with (first | (refine wpList_load_blk rfl 75 (.tmp 25) rfl B (k * 26) rfl _ (tkAt l xs k) 75 CB.out (TA.out.at' k (by omega)) _ Try.underlying75 rfl (by kernel_rfl) ?_) | ((with_reducible (show wpList _ _ _ ({ dst := none, op := .store _ _ _, type := _, pos := _, after := _, guard := _ } :: _) _ _)); go_must (refine wpList_store_blk rfl 75 (.tmp 10) (.tmp 26) rfl wr.heap.size 0 (tkC (fun _ => (0, 0, 0)) 0 (fun _ => 0) 0) (tkAt l xs k) 75 rfl rfl (heap_alloc_new _ _) (by simp [tkC_length, tkAt_length]) (by kernel_rfl) (tkC_one _ _ _ _) ?_); intro w5 hb_ hc_; have HB5 := Lib.hid (WB.eqv hb_.out (splice_zero _ _ rfl)); have N5 := Lib.hid (Chg.new (w0 := wr) (by repeat (first | with_reducible exact New.refl _ | with_reducible assumption | refine New.drewN ?_ _ | refine New.drew ?_ | refine New.alloc ?_ _ | refine New.setCell ?_ (by first | omega | (simp; omega) | (simp; done)) _ | (refine New.trans ?_ (by assumption)))) hc_ (fun i hi => by omega)); clear hb_ hc_))
        have SB5 := Lib.hid (SB.out.new N5.out)
        have CB5 := Lib.hid (CB.out.new N5.out)
        have zS := Lib.hid SB.out.lt
        have PT := Lib.hid (show ∀ (j : Nat) (v : Value), (stC (basA (rowK l xs (k + 1))) q)[j]? = some v → (tkAt l xs k)[0 + j]? = some v from fun j v hv => by unfold tkAt; rw [← HQ.out]; exact tkC_state (basA (rowK l xs (k + 1))) q _ _ j v hv)
        go_wp2_with (first
          | (refine wpList_load_blk rfl 72 (.tmp 27) rfl wr.heap.size 0 rfl _ (stC (basA (rowK l xs (k + 1))) q) 75 HB5.out PT.out _ Try.underlying72 rfl (by kernel_rfl) ?_)
          | ((with_reducible (show wpList _ _ _ ({ dst := none, op := .store _ _ _, type := _, pos := _, after := _, guard := _ } :: _) _ _)); go_must (refine wpList_store_blk rfl 72 (.tmp 8) (.tmp 28) rfl w2.heap.size 0 (stC (basA (rowK l xs k)) q) (stC (basA (rowK l xs (k + 1))) q) 72 rfl rfl SB5.out (by simp [stC_length]) (by kernel_rfl) (stC_one _ _) ?_); intro w6 hb_ hc_; have SB6 := Lib.hid (WB.eqv hb_.out (splice_zero _ _ rfl)); have CB6 := Lib.hid (CB5.out.chg hc_ (fun e => by have := CB2.out.lt; omega)); have N6 := Lib.hid (Chg.new (NW.out.trans N5.out) hc_ (fun i hi => by have := N2.out.size; omega)); clear hb_ hc_))
        go_roundw
        case rel => exact ⟨k + 1, by omega, by go_num, SB6.out, CB6.out, N6.out⟩
        case measure => simp [intOf]; omega
      · obtain rfl : k = m := by omega
        have er : Value.agg (stC (basA (rowK l xs k)) q).toArray = rowV (rowK l xs k) := by show _ = Value.agg (stC (basA (rowK l xs k)) ((rowK l xs k).length : Int)).toArray; rw [rowK_length, HQ.out]
        go_wp2_with (refine wpList_load_blk rfl 72 (.tmp 8) rfl w2.heap.size 0 rfl _ (stC (basA (rowK l xs k)) q) 72 SB.out (fun j v hv => by rw [Nat.zero_add]; exact hv) _ Try.underlying72 rfl (by kernel_rfl) ?_)
        refine (row_any _ (rowK l xs k) RK.out.1 RK.out.2.1).mono ?_
        rintro e w6 ⟨oa, on, oc, rfl, o6, n6⟩
        go_wp2_with fail
        go_ret2
        rw [HR.out.1, HR.out.2]
        exact ⟨_, _, _, rfl, o6.mono NW.out.size (Nat.le_refl _), NW.out.trans n6⟩
  · have HR := Lib.hid (show askB l xs = false ∧ afterM l xs = [] from ⟨hf, by unfold afterM; rw [hf]; rfl⟩)
    go_wp2_with fail
    go_ret2
    rw [HR.out.1, HR.out.2]
    exact ⟨_, _, _, rfl, OwnBasin.nil _ _ _, n1⟩
end Go.Proofs.Ytchnnbkaiagpgaa
