/- LeastSize: the program's. -/
import Derived.Test.YtchnnbkaiagpgaaTicks5
import Derived.Test.YtchnnbkaiagpgaaLsM
namespace Go.Proofs.Ytchnnbkaiagpgaa
open Go.RowKit Go.Conc

theorem stC_size (f : Nat → Int × Int × Int) (n : Int) (k : Nat) (hk : k < 6) (x : Int) : (stC f n).set (k * 3) (.int .i64 x) = stC (fun j => if j = k then (x, (f k).2.1, (f k).2.2) else f j) n := by
  match k, hk with
  | 0, _ => rfl
  | 1, _ => rfl
  | 2, _ => rfl
  | 3, _ => rfl
  | 4, _ => rfl
  | 5, _ => rfl
theorem basA_set (l : List (Int × Int × Int)) (i : Nat) (s : Int) (hi : i < l.length) : basA (setS l i s) = fun j => if j = i then (s, (basA l i).2.1, (basA l i).2.2) else basA l j := by
  funext j
  by_cases e : j = i
  · subst e
    rw [if_pos rfl]
    exact setS_same _ _ _ hi
  · rw [if_neg e]
    exact setS_other _ _ _ _ e
theorem lsM_no {l : List (Int × Int × Int)} {i : Int} {xs : List Int} (h : lsB l i xs = false) : lsM l i xs = (0, false) := by unfold lsM; rw [h]; rfl

set_option maxRecDepth 100000 in
set_option maxHeartbeats 4000000 in
theorem iLeastSize_any (w : World) (aa : Option Addr) (n ca : Nat) (l : List (Int × Int × Int)) (i : Int) (ab : Option Addr) (m cb : Nat) (xs : List Int) (ha : Basins w aa n ca l) (hx : Ints w ab m cb xs) :
    Calls Try.prog 43 #[.slice aa n ca, .int .i64 i, .slice ab m cb] w fun e w' => e = .returned (.tuple #[.int .i64 (lsM l i xs).1, .bool (lsM l i xs).2]) ∧ New w w' := by
  have HN := Lib.hid ha.1
  have HM := Lib.hid hx.1
  have hnn := ha.2.2.1
  have hmm := hx.2.2.1
  have HA := Lib.hid ha; clear ha
  have HX := Lib.hid hx; clear hx
  by_cases h1 : rowB l = true
  · by_cases hp : (decide (0 ≤ i) && decide (i < (n : Int))) = true
    · by_cases h3 : flowB xs = true
      · obtain ⟨i0, i1⟩ : 0 ≤ i ∧ i < (n : Int) := by rw [Bool.and_eq_true, decide_eq_true_eq, decide_eq_true_eq] at hp; exact hp
        obtain ⟨p, rfl⟩ := Int.eq_ofNat_of_zero_le i0
        have pn : p < n := by omega
        have hb : lsB l p xs = true := by unfold lsB askB; rw [h1, h3, inB_iff.2 ⟨by omega, by rw [← HN.out]; omega⟩]; rfl
        have HL := Lib.hid (show lsM l p xs = if pkI l xs p m ≤ 1000 then (pkI l xs p m, true) else (0, false) by unfold lsM; rw [if_pos hb, HM.out]; rfl)
        have RO := Lib.hid (rowB_iff.1 h1)
        have FO := Lib.hid (flowB_iff.1 h3)
        have pl : p < l.length := by have := HN.out; omega
        have n6 : n ≤ 6 := by have := RO.out.2.1; have := HN.out; omega
        have n1' : 1 ≤ n := by omega
        have p6 : p < 6 := by omega
        have m60 : m ≤ 60 := by have := FO.out.1; have := HM.out; omega
        have bk := RO.out.2.2 p pl
        unfold BasOk at bk
        have SO := Lib.hid (setS_ok RO.out p 1000 pl (by omega) (by omega) (by omega))
        clear hb
        have PL := Lib.hid pl; clear pl
        go_enter Try.func43, Try.ntmps43
        go_wp2_with fail
        refine (iIsRow_any _ _ _ _ l HA.out).mono ?_
        rintro e w1 ⟨hr1, n1⟩
        rw [h1] at hr1
        subst hr1
        have N1 := Lib.hid n1; clear n1
        go_wp2_with fail
        refine (isPlace_any _ _ _ _ _ hnn).mono ?_
        rintro e w9 ⟨hr2, rfl⟩
        rw [hp] at hr2
        subst hr2
        go_wp2_with fail
        refine (iAreFlows_any _ _ _ _ xs (HX.out.new N1.out)).mono ?_
        rintro e w2 ⟨hr3, n2⟩
        rw [h3] at hr3
        subst hr3
        have N2 := Lib.hid (N1.out.trans n2); clear n2
        obtain ⟨q, hq⟩ : ∃ q : Int, q = (l.length : Int) := ⟨_, rfl⟩
        have HQ := Lib.hid hq
        go_wp2_with fail
        refine (stateOf_any _ _ _ _ l (HA.out.new N2.out) n1' n6).mono ?_
        rintro e w3 ⟨rfl, n3⟩
        have N3 := Lib.hid (N2.out.trans n3); clear n3
        have er : rowV l = Value.agg (stC (basA l) q).toArray := by show Value.agg (stC (basA l) (l.length : Int)).toArray = _; rw [hq]
        rw [er]
        clear er hq h1 hp h3 i0 i1
        go_upto_region 4 with ((with_reducible (show wpList _ _ _ ({ dst := none, op := .store _ _ _, type := _, pos := _, after := _, guard := _ } :: _) _ _)); go_must (refine wpList_store_blk rfl 72 (.tmp 8) (.tmp 27) rfl w3.heap.size 0 (stC (fun _ => (0, 0, 0)) 0) (stC (basA l) q) 72 rfl rfl (heap_alloc_new _ _) (by simp [stC_length]) (by kernel_rfl) (stC_one _ _) ?_); intro w4 hb_ hc_; have HS4 := Lib.hid (WB.eqv hb_.out (splice_zero _ _ rfl)); have N4 := Lib.hid (Chg.new (w0 := w) (N3.out.trans (by repeat (first | with_reducible exact New.refl _ | with_reducible assumption | refine New.drewN ?_ _ | refine New.drew ?_ | refine New.alloc ?_ _ | refine New.setCell ?_ (by first | omega | (simp; omega) | (simp; done)) _ | (refine New.trans ?_ (by assumption))))) hc_ (fun i hi => by have := N3.out.size; omega)); clear hb_ hc_)
        have hd : w4.cell? ⟨w3.heap.size, p * 3, none⟩ = some (.int .i64 (basA l p).1) := HS4.out.cell (stC_get _ _ _ p6).1
        have hfz := HS4.out.frozen (p * 3)
        have z4 := N4.out.size
        go_upto_region 5 with fail
        obtain ⟨w5, hw5⟩ : ∃ w5, w5 = w4.setCell ⟨w3.heap.size, p * 3, none⟩ (.int .i64 1000) := ⟨_, rfl⟩
        rw [← hw5]
        have B5 := Lib.hid (show WB w5 w3.heap.size (stC (basA (setS l p 1000)) q) 72 by rw [hw5, basA_set _ _ _ PL.out, ← stC_size _ _ _ p6]; exact HS4.out.set (p * 3) _)
        have N5 := Lib.hid (show New w w5 by rw [hw5]; exact N4.out.setCell (by have := N3.out.size; simp; omega) _)
        clear hw5 hd hfz HS4
        obtain ⟨bx, ox, rfl, g0, g1, g2⟩ := (HA.out.new N5.out).2.2.2.1 p pn
        go_upto_region 6 with fail
        go_wp2_with (refine wpList_load_blk rfl 72 (.tmp 8) rfl w3.heap.size 0 rfl _ (stC (basA (setS l p 1000)) q) 72 B5.out (fun j v hv => by rw [Nat.zero_add]; exact hv) _ Try.underlying72 rfl (by kernel_rfl) ?_)
        all_goals
          have er2 : Value.agg (stC (basA (setS l p 1000)) q).toArray = rowV (setS l p 1000) := by show _ = Value.agg (stC (basA (setS l p 1000)) ((setS l p 1000).length : Int)).toArray; rw [setS_length, HQ.out]
          rw [er2]
          refine (ticks_any _ (setS l p 1000) _ _ _ xs (HX.out.new N5.out) SO.out FO.out).mono ?_
          rintro e w6 ⟨B, cs, rfl, hcb, hta, hlo, n6'⟩
          have CB0 := Lib.hid hcb; clear hcb
          have TA := Lib.hid hta; clear hta
          have N6 := Lib.hid (N5.out.trans n6'); clear n6' er2
          go_wp2_with fail
          go_loopw [9, 42] (fun y t wr => ∃ k : Nat, k ≤ m ∧ t = .int .i64 k ∧ y = .int .i64 (pkI l xs p k) ∧ WB wr B cs 75 ∧ New w6 wr) (fun _ t _ => m - (intOf t).toNat)
          case atStart => exact ⟨0, Nat.zero_le _, rfl, by show Value.int .i64 _ = Value.int .i64 (max 1 _); congr 1; omega, CB0.out, New.refl _⟩
          case round =>
            obtain ⟨k, hk, rfl, rfl, hcb, hnw⟩ := hrel
            have CB := Lib.hid hcb; clear hcb
            have NW := Lib.hid hnw; clear hnw
            by_cases hlt : k < m
            · go_upto_region 9 with (first | (refine wpList_load_blk rfl 75 (.tmp 44) rfl B (k * 26) rfl _ (tkAt (setS l p 1000) xs k) 75 CB.out (TA.out.at' k (by omega)) _ Try.underlying75 rfl (by kernel_rfl) ?_) | ((with_reducible (show wpList _ _ _ ({ dst := none, op := .store _ _ _, type := _, pos := _, after := _, guard := _ } :: _) _ _)); go_must (refine wpList_store_blk rfl 75 (.tmp 11) (.tmp 45) rfl wr.heap.size 0 (tkC (fun _ => (0, 0, 0)) 0 (fun _ => 0) 0) (tkAt (setS l p 1000) xs k) 75 rfl rfl (heap_alloc_new _ _) (by simp [tkC_length, tkAt_length]) (by kernel_rfl) (tkC_one _ _ _ _) ?_); intro w5x hb_ hc_; have HB5 := Lib.hid (WB.eqv hb_.out (splice_zero _ _ rfl)); have N5x := Lib.hid (Chg.new (w0 := wr) (by repeat (first | with_reducible exact New.refl _ | with_reducible assumption | refine New.drewN ?_ _ | refine New.drew ?_ | refine New.alloc ?_ _ | refine New.setCell ?_ (by first | omega | (simp; omega) | (simp; done)) _ | (refine New.trans ?_ (by assumption)))) hc_ (fun i hi => by omega)); clear hb_ hc_))
              have CB5 := Lib.hid (CB.out.new N5x.out)
              obtain ⟨c0, c1, c2, c3⟩ := tkC_get (basA (rowK (setS l p 1000) xs (k + 1))) (setS l p 1000).length (hadA (rowK (setS l p 1000) xs k) (xs[k]?.getD 0) (setS l p 1000).length) (giveK (setS l p 1000) xs k) p p6
              have eh : hadA (rowK (setS l p 1000) xs k) (xs[k]?.getD 0) (setS l p 1000).length p = hadT (setS l p 1000) xs p k := by unfold hadA; rw [if_pos (by rw [setS_length]; exact PL.out)]; rfl
              rw [eh] at c3
              have q2 : w5x.cell? ⟨wr.heap.size, 19 + p, none⟩ = some (.int .i64 (hadT (setS l p 1000) xs p k)) := HB5.out.cell c3
              clear c0 c1 c2 c3 eh
              go_wp2_with fail
              all_goals go_roundw
              all_goals first
                | (simp [intOf]; omega)
                | (refine ⟨k + 1, by omega, by go_num, ?_, CB5.out, NW.out.trans N5x.out⟩
                   show Value.int .i64 _ = Value.int .i64 (max (pkI l xs p k) (hadT (setS l p 1000) xs p k))
                   congr 1
                   omega)
            · obtain rfl : k = m := by omega
              by_cases hle : pkI l xs p k ≤ 1000
              · go_wp2_with fail
                go_ret2
                exact ⟨by rw [HL.out, if_pos hle]; rfl, N6.out.trans NW.out⟩
              · go_wp2_with fail
                go_ret2
                exact ⟨by rw [HL.out, if_neg (show ¬ pkI l xs p k ≤ 1000 by omega)]; rfl, N6.out.trans NW.out⟩
      · have FB := bool_no h3
        obtain ⟨RB, PB⟩ : rowB l = true ∧ (decide (0 ≤ i) && decide (i < (n : Int))) = true := ⟨h1, hp⟩
        have HNO := Lib.hid (lsM_no (l := l) (i := i) (xs := xs) (by unfold lsB askB; rw [FB]; simp))
        clear h1 hp h3
        go_enter Try.func43, Try.ntmps43
        go_wp2_with fail
        refine (iIsRow_any _ _ _ _ l HA.out).mono ?_
        rintro e w1 ⟨hr1, n1⟩
        rw [RB] at hr1
        subst hr1
        have N1 := Lib.hid n1; clear n1
        go_wp2_with fail
        refine (isPlace_any _ _ _ _ _ hnn).mono ?_
        rintro e w9 ⟨hr2, rfl⟩
        rw [PB] at hr2
        subst hr2
        go_wp2_with fail
        refine (iAreFlows_any _ _ _ _ xs (HX.out.new N1.out)).mono ?_
        rintro e w2 ⟨hr3, n2⟩
        rw [FB] at hr3
        subst hr3
        have N2 := Lib.hid (N1.out.trans n2); clear n2
        go_wp2_with fail
        go_ret2
        exact ⟨by rw [HNO.out]; rfl, N2.out⟩
    · have PB := bool_no hp
      have RB := h1
      have HNO := Lib.hid (lsM_no (l := l) (i := i) (xs := xs) (by
        unfold lsB
        rw [show inB 0 ((l.length : Int) - 1) i = false from bool_no fun hh => hp (by have := inB_iff.1 hh; have := HN.out; rw [Bool.and_eq_true, decide_eq_true_eq, decide_eq_true_eq]; omega)]
        simp))
      clear h1 hp
      go_enter Try.func43, Try.ntmps43
      go_wp2_with fail
      refine (iIsRow_any _ _ _ _ l HA.out).mono ?_
      rintro e w1 ⟨hr1, n1⟩
      rw [RB] at hr1
      subst hr1
      have N1 := Lib.hid n1; clear n1
      go_wp2_with fail
      refine (isPlace_any _ _ _ _ _ hnn).mono ?_
      rintro e w9 ⟨hr2, rfl⟩
      rw [PB] at hr2
      subst hr2
      go_wp2_with fail
      go_ret2
      exact ⟨by rw [HNO.out]; rfl, N1.out⟩
  · have RB := bool_no h1
    have HNO := Lib.hid (lsM_no (l := l) (i := i) (xs := xs) (by unfold lsB askB; rw [RB]; rfl))
    clear h1
    go_enter Try.func43, Try.ntmps43
    go_wp2_with fail
    refine (iIsRow_any _ _ _ _ l HA.out).mono ?_
    rintro e w1 ⟨hr1, n1⟩
    rw [RB] at hr1
    subst hr1
    have N1 := Lib.hid n1; clear n1
    go_wp2_with fail
    go_ret2
    exact ⟨by rw [HNO.out]; rfl, N1.out⟩
end Go.Proofs.Ytchnnbkaiagpgaa
