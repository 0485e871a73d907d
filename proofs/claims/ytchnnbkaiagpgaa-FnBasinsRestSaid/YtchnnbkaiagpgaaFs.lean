/- FirstSpill: the model's and the program's. -/
import Derived.Test.YtchnnbkaiagpgaaTicks5
import Derived.Test.YtchnnbkaiagpgaaWeGo
namespace Go.Proofs.Ytchnnbkaiagpgaa
open Go.RowKit Go.Conc

theorem spilt_tk (w : World) (l : List (Int × Int × Int)) (xs : List Int) (t i : Nat) (hl : RowOk l) (hf : FlowOk xs) (ht : t < xs.length) (hi : i < l.length) :
    Calls Try.prog 55 #[.agg (tkAt l xs t).toArray, .int .i64 (i : Int)] w fun e w' => e = .returned (.int .i64 (spAt l xs t i)) ∧ New w w' := by
  have rk := rowK_ok hl hf t (by omega)
  have hx := hf.2 t ht
  have h6 := hl.2.1
  have hil : i < (rowK l xs t).length := by rw [rowK_length]; exact hi
  have ok := rk.2.2 i hil
  have ib := inK_bd rk hx.1 i (by omega)
  have e1 : basA (rowK l xs (t + 1)) i = stB ((rowK l xs t)[i]?.getD (0, 0, 0)) (inK (rowK l xs t) (xs[t]?.getD 0) i) := tickL_get _ _ _ hil
  have e2 : hadA (rowK l xs t) (xs[t]?.getD 0) l.length i = ((rowK l xs t)[i]?.getD (0, 0, 0)).2.2 + inK (rowK l xs t) (xs[t]?.getD 0) i := by unfold hadA; rw [if_pos hi]
  unfold BasOk at ok
  have h := spilt_any w (basA (rowK l xs (t + 1))) l.length (hadA (rowK l xs t) (xs[t]?.getD 0) l.length) (giveK l xs t) i (by omega) (by rw [e1]; unfold stB; simp only; omega) (by rw [e1]; unfold stB; simp only; omega) (by rw [e2]; omega) (by rw [e2]; omega)
  rw [e1, e2] at h
  exact h
/-- The first basin that spills, at the first tick at which one does. -/
def First (l : List (Int × Int × Int)) (xs : List Int) (t i : Nat) : Prop :=
  t < xs.length ∧ i < l.length ∧ 0 < spAt l xs t i ∧ (∀ j, j < i → spAt l xs t j ≤ 0) ∧ (∀ s, s < t → ∀ j, j < l.length → spAt l xs s j ≤ 0)
theorem First.unique {l : List (Int × Int × Int)} {xs : List Int} {t i t' i' : Nat} (h : First l xs t i) (k : First l xs t' i') : t = t' ∧ i = i' := by
  obtain ⟨h1, h2, h3, h4, h5⟩ := h
  obtain ⟨k1, k2, k3, k4, k5⟩ := k
  have e : t = t' := by
    rcases Nat.lt_trichotomy t t' with q | q | q
    · have := k5 t q i h2; omega
    · exact q
    · have := h5 t' q i' k2; omega
  subst e
  refine ⟨rfl, ?_⟩
  rcases Nat.lt_trichotomy i i' with q | q | q
  · have := k4 i q; omega
  · exact q
  · have := h4 i' q; omega
noncomputable def fsM (l : List (Int × Int × Int)) (xs : List Int) : Int × Int × Bool := by
  classical exact if h : askB l xs = true ∧ ∃ p : Nat × Nat, First l xs p.1 p.2 then (((Classical.choose h.2).1 : Int), ((Classical.choose h.2).2 : Int), true) else (0, 0, false)
theorem fsM_yes {l : List (Int × Int × Int)} {xs : List Int} {t i : Nat} (ha : askB l xs = true) (h : First l xs t i) : fsM l xs = ((t : Int), (i : Int), true) := by
  have k : ∃ p : Nat × Nat, First l xs p.1 p.2 := ⟨(t, i), h⟩
  unfold fsM
  rw [dif_pos ⟨ha, k⟩]
  obtain ⟨e1, e2⟩ := (Classical.choose_spec k).unique h
  rw [e1, e2]
theorem fsM_no {l : List (Int × Int × Int)} {xs : List Int} (h : ∀ t, t < xs.length → ∀ j, j < l.length → spAt l xs t j ≤ 0) : fsM l xs = (0, 0, false) := by
  unfold fsM
  rw [dif_neg]
  rintro ⟨_, p, q⟩
  have a := h p.1 q.1 p.2 q.2.1
  have b := q.2.2.1
  omega
theorem fsM_not {l : List (Int × Int × Int)} {xs : List Int} (h : askB l xs = false) : fsM l xs = (0, 0, false) := by
  unfold fsM
  rw [dif_neg]
  rintro ⟨q, _⟩
  rw [h] at q
  cases q

set_option maxRecDepth 100000 in
set_option maxHeartbeats 2000000 in
theorem sFirstSpill_any (w : World) (aa : Option Addr) (n ca : Nat) (l : List (Int × Int × Int)) (ab : Option Addr) (m cb : Nat) (xs : List Int) (ha : Basins w aa n ca l) (hx : Ints w ab m cb xs) :
    Calls Try.prog 14 #[.slice aa n ca, .slice ab m cb] w fun e w' => e = .returned (.tuple #[.int .i64 (fsM l xs).1, .int .i64 (fsM l xs).2.1, .bool (fsM l xs).2.2]) ∧ New w w' := by
  have HM := Lib.hid hx.1
  have hmm := hx.2.2.1
  have HA := Lib.hid ha; clear ha
  have HX := Lib.hid hx; clear hx
  by_cases h : askB l xs = true
  · have HC := Lib.hid (askB_iff.1 h)
    have AS := Lib.hid h
    have m60 : m ≤ 60 := by have := HC.out.2.1; have := HM.out; omega
    have l6 : l.length ≤ 6 := HC.out.1.2.1
    go_enter Try.func14, Try.ntmps14
    go_wp2_with fail
    refine (weAsked_any _ _ _ _ l _ _ _ xs HA.out HX.out).mono ?_
    rintro e w1 ⟨rfl, n1⟩
    have N1 := Lib.hid n1; clear n1
    go_wp2_with fail
    refine (weGo_any _ _ _ _ l _ _ _ xs (HA.out.new N1.out) (HX.out.new N1.out) HC.out.1 HC.out.2).mono ?_
    rintro e w2 ⟨ga, gc, ea, en, ec, sa, sc, ra, rc, rfl, _, _, is, _, n2⟩
    have IS := Lib.hid is; clear is
    have N2 := Lib.hid (N1.out.trans n2); clear n2
    go_wp2_with ((with_reducible (show wpList _ _ _ ({ dst := _, op := .field _ _ _, type := _, pos := _, after := _, guard := _ } :: _) _ _)); go_must (refine wpList_value_as rfl (.slice sa m sc) (by kernel_rfl) ?_))
    clear h
    go_loopw [20] (fun t wr => ∃ k : Nat, k ≤ m ∧ t = .int .i64 k ∧ (∀ s, s < k → ∀ j, j < l.length → spAt l xs s j ≤ 0) ∧ w2 = wr) (fun t _ => m - (intOf t).toNat)
    case atStart => exact ⟨0, Nat.zero_le _, rfl, fun j hj => absurd hj (by omega), rfl⟩
    case round =>
      obtain ⟨k, hk, rfl, hp, rfl⟩ := hrel
      have HP := Lib.hid hp; clear hp
      by_cases hlt : k < m
      · obtain ⟨bq, oq, qa, qm, qc, rfl, hcl, hbs⟩ := IS.out.2.2.2.1 k hlt
        have KX := Lib.hid (show k < xs.length by have := HM.out; omega)
        have e1 : (spillsTo l xs m)[k]?.getD [] = spillsAt l xs k := by simp [spillsTo, hlt]
        rw [e1] at hbs
        obtain rfl : qm = l.length := by rw [hbs.1, spillsAt_length]
        have QS := Lib.hid hbs; clear hbs e1
        go_wp2_with fail
        go_loopw [27] (fun t wr => ∃ j : Nat, j ≤ l.length ∧ t = .int .i64 j ∧ (∀ i, i < j → spAt l xs k i ≤ 0) ∧ w2 = wr) (fun t _ => l.length - (intOf t).toNat)
        case atStart => exact ⟨0, Nat.zero_le _, rfl, fun j hj => absurd hj (by omega), rfl⟩
        case round =>
          obtain ⟨j, hj, rfl, hq, rfl⟩ := hrel
          have HQ := Lib.hid hq; clear hq
          by_cases jlt : j < l.length
          · obtain ⟨b, o, rfl, hcl2, _⟩ := QS.out.at jlt
            rw [spillsAt_get _ _ _ _ jlt] at hcl2
            by_cases hs : 0 < spAt l xs k j
            · have FY := Lib.hid (fsM_yes AS.out (show First l xs k j from ⟨KX.out, jlt, hs, HQ.out, HP.out⟩))
              go_wp2_with fail
              go_ret3
              exact ⟨by rw [FY.out]; rfl, N2.out⟩
            · have hs' : spAt l xs k j ≤ 0 := by omega
              go_wp2_with fail
              go_roundw
              case rel =>
                refine ⟨j + 1, by omega, by go_num, fun i hi => ?_, by first | rfl | trivial⟩
                by_cases e : i = j
                · subst e; exact hs'
                · exact HQ.out i (by omega)
              case measure => simp [intOf]; omega
          · obtain rfl : j = l.length := by omega
            go_wp2_with fail
            go_roundw
            case rel =>
              refine ⟨k + 1, by omega, by go_num, fun s hs => ?_, by first | rfl | trivial⟩
              by_cases e : s = k
              · subst e; exact HQ.out
              · exact HP.out s (by omega)
            case measure => simp [intOf]; omega
      · obtain rfl : k = m := by omega
        have FN := Lib.hid (fsM_no (l := l) (xs := xs) (fun t ht => HP.out t (by have := HM.out; omega)))
        go_wp2_with fail
        go_ret3
        exact ⟨by rw [FN.out]; rfl, N2.out⟩
  · have hf := bool_no h
    have FN := Lib.hid (fsM_not hf)
    go_enter Try.func14, Try.ntmps14
    go_wp2_with fail
    refine (weAsked_any _ _ _ _ l _ _ _ xs HA.out HX.out).mono ?_
    rintro e w1 ⟨rfl, n1⟩
    have N1 := Lib.hid n1; clear n1
    go_wp2_with fail
    go_ret3
    exact ⟨by rw [FN.out]; rfl, N1.out⟩

set_option maxRecDepth 100000 in
set_option maxHeartbeats 2000000 in
theorem iFirstSpill_any (w : World) (aa : Option Addr) (n ca : Nat) (l : List (Int × Int × Int)) (ab : Option Addr) (m cb : Nat) (xs : List Int) (ha : Basins w aa n ca l) (hx : Ints w ab m cb xs) :
    Calls Try.prog 13 #[.slice aa n ca, .slice ab m cb] w fun e w' => e = .returned (.tuple #[.int .i64 (fsM l xs).1, .int .i64 (fsM l xs).2.1, .bool (fsM l xs).2.2]) ∧ New w w' := by
  have HN := Lib.hid ha.1
  have HM := Lib.hid hx.1
  have hnn := ha.2.2.1
  have hmm := hx.2.2.1
  have HA := Lib.hid ha; clear ha
  have HX := Lib.hid hx; clear hx
  go_enter Try.func13, Try.ntmps13
  go_wp2_with fail
  refine (ticksOf_any _ _ _ _ l _ _ _ xs HA.out HX.out).mono ?_
  rintro e w1 (⟨h, B, cs, rfl, hcb, hta, hlo, n1⟩ | ⟨hf, rfl, n1⟩)
  · have HC := Lib.hid (askB_iff.1 h)
    have AS := Lib.hid h; clear h
    have m60 : m ≤ 60 := by have := HC.out.2.1; have := HM.out; omega
    have N1 := Lib.hid n1; clear n1
    have CB0 := Lib.hid hcb; clear hcb
    have TA := Lib.hid hta; clear hta
    go_wp2_with fail
    go_loopw [20] (fun t wr => ∃ k : Nat, k ≤ m ∧ t = .int .i64 k ∧ (∀ s, s < k → ∀ j, j < l.length → spAt l xs s j ≤ 0) ∧ WB wr B cs 75 ∧ New w1 wr) (fun t _ => m - (intOf t).toNat)
    case atStart => exact ⟨0, Nat.zero_le _, rfl, fun j hj => absurd hj (by omega), CB0.out, New.refl _⟩
    case round =>
      obtain ⟨k, hk, rfl, hp, hcb, hnw⟩ := hrel
      obtain ⟨wq, rfl⟩ : ∃ u : World, u = wr := ⟨_, rfl⟩
      have HP := Lib.hid hp; clear hp
      have CB := Lib.hid hcb; clear hcb
      have NW := Lib.hid hnw; clear hnw
      by_cases hlt : k < m
      · have KX := Lib.hid (show k < xs.length by have := HM.out; omega)
        go_upto_region 5 with (first | (refine wpList_load_blk rfl 75 (.tmp 23) rfl B (k * 26) rfl _ (tkAt l xs k) 75 CB.out (TA.out.at' k (by omega)) _ Try.underlying75 rfl (by kernel_rfl) ?_) | ((with_reducible (show wpList _ _ _ ({ dst := none, op := .store _ _ _, type := _, pos := _, after := _, guard := _ } :: _) _ _)); go_must (refine wpList_store_blk rfl 75 (.tmp 10) (.tmp 24) rfl wq.heap.size 0 (tkC (fun _ => (0, 0, 0)) 0 (fun _ => 0) 0) (tkAt l xs k) 75 rfl rfl (heap_alloc_new _ _) (by simp [tkC_length, tkAt_length]) (by kernel_rfl) (tkC_one _ _ _ _) ?_); intro w5 hb_ hc_; have HB5 := Lib.hid (WB.eqv hb_.out (splice_zero _ _ rfl)); have N5 := Lib.hid (Chg.new (w0 := wq) (by repeat (first | with_reducible exact New.refl _ | with_reducible assumption | refine New.drewN ?_ _ | refine New.drew ?_ | refine New.alloc ?_ _ | refine New.setCell ?_ (by first | omega | (simp; omega) | (simp; done)) _ | (refine New.trans ?_ (by assumption)))) hc_ (fun i hi => by omega)); clear hb_ hc_))
        have CB5 := Lib.hid (CB.out.new N5.out)
        have N6 := Lib.hid (NW.out.trans N5.out)
        obtain ⟨bt, hbt⟩ : ∃ bt, bt = wq.heap.size := ⟨_, rfl⟩
        rw [← hbt] at HB5
        rw [← hbt]
        clear hbt N5
        go_wp2_with fail
        go_loopw [27] (fun t wr => ∃ j : Nat, j ≤ n ∧ t = .int .i64 j ∧ (∀ i, i < j → spAt l xs k i ≤ 0) ∧ New w5 wr) (fun t _ => n - (intOf t).toNat)
        case atStart => exact ⟨0, Nat.zero_le _, rfl, fun j hj => absurd hj (by omega), New.refl _⟩
        case round =>
          obtain ⟨j, hj, rfl, hq, hn5⟩ := hrel
          have HQ := Lib.hid hq; clear hq
          have K5 := Lib.hid hn5; clear hn5
          have BT := Lib.hid (HB5.out.new K5.out)
          by_cases jlt : j < n
          · have jl : j < l.length := by have := HN.out; omega
            go_wp2_with (refine wpList_load_blk rfl 75 (.tmp 10) rfl bt 0 rfl _ (tkAt l xs k) 75 BT.out (fun j v hv => by rw [Nat.zero_add]; exact hv) _ Try.underlying75 rfl (by kernel_rfl) ?_)
            refine (spilt_tk _ l xs k j HC.out.1 HC.out.2 KX.out jl).mono ?_
            rintro e w7 ⟨rfl, n7⟩
            by_cases hs : 0 < spAt l xs k j
            · have FY := Lib.hid (fsM_yes AS.out (show First l xs k j from ⟨KX.out, jl, hs, HQ.out, HP.out⟩))
              go_wp2_with fail
              go_ret3
              exact ⟨by rw [FY.out]; rfl, ((N1.out.trans N6.out).trans K5.out).trans n7⟩
            · have hs' : spAt l xs k j ≤ 0 := by omega
              go_wp2_with fail
              go_roundw
              case rel =>
                refine ⟨j + 1, by omega, by go_num, fun i hi => ?_, K5.out.trans n7⟩
                by_cases e : i = j
                · subst e; exact hs'
                · exact HQ.out i (by omega)
              case measure => simp [intOf]; omega
          · obtain rfl : j = n := by omega
            go_wp2_with fail
            go_roundw
            case rel =>
              refine ⟨k + 1, by omega, by go_num, fun s hs => ?_, CB5.out.new K5.out, N6.out.trans K5.out⟩
              by_cases e : s = k
              · subst e; exact fun j hj => HQ.out j (by have := HN.out; omega)
              · exact HP.out s (by omega)
            case measure => simp [intOf]; omega
      · obtain rfl : k = m := by omega
        have FN := Lib.hid (fsM_no (l := l) (xs := xs) (fun t ht => HP.out t (by have := HM.out; omega)))
        go_wp2_with fail
        go_ret3
        exact ⟨by rw [FN.out]; rfl, N1.out.trans NW.out⟩
  · have FN := Lib.hid (fsM_not hf)
    go_wp2_with fail
    refine wp_loop_rounds 1 ?_
    rw [rounds_succ]
    go_wp2_with fail
    go_ret3
    exact ⟨by rw [FN.out]; rfl, n1⟩
end Go.Proofs.Ytchnnbkaiagpgaa
