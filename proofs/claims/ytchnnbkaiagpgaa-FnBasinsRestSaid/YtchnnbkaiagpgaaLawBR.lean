/- The law of basins that rest. -/
import Derived.Test.YtchnnbkaiagpgaaBrm
import Derived.Test.YtchnnbkaiagpgaaDr5b
import Derived.Test.YtchnnbkaiagpgaaHsb
import Derived.Test.YtchnnbkaiagpgaaLsI
import Derived.Test.YtchnnbkaiagpgaaLsS
import Derived.Test.YtchnnbkaiagpgaaBrs
import Derived.Deep.CutRange
namespace Go.Proofs.Ytchnnbkaiagpgaa
open Go.RowKit Go.IntWalk Go.Conc

theorem big_any (w : World) (ao bo : Option Addr) (n m cap dap : Nat) (hn : n ≤ 9223372036854775807) (_hm : m ≤ 9223372036854775807) :
    Calls Try.prog 5 #[.slice ao n cap, .slice bo m dap] w fun e w' => ∃ b : Bool, e = .returned (.bool b) ∧ w = w' := by
  by_cases h1 : 1048576 < (n : Int)
  · go_enter Try.func5, Try.ntmps5
    go_wp2
    go_ret
    first | exact ⟨_, rfl, rfl⟩ | exact ⟨.inl rfl, rfl⟩ | exact ⟨.inr rfl, rfl⟩
  · have g : IntKind.i64.wrap (1048576 - (n : Int)) = 1048576 - (n : Int) := i64_in _ (by omega)
    by_cases h2 : 1048576 - (n : Int) < m
    · go_enter Try.func5, Try.ntmps5
      go_wp2
      go_ret
      first | exact ⟨_, rfl, rfl⟩ | exact ⟨.inl rfl, rfl⟩ | exact ⟨.inr rfl, rfl⟩
    · go_enter Try.func5, Try.ntmps5
      go_wp2
      go_ret
      first | exact ⟨_, rfl, rfl⟩ | exact ⟨.inl rfl, rfl⟩ | exact ⟨.inr rfl, rfl⟩

set_option maxRecDepth 100000 in
set_option maxHeartbeats 16000000 in
theorem law_BasinsRest (w : World) (ao bo : Option Addr) (n m cap dap : Nat) (h1 : Byts w ao n cap) (h2 : Byts w bo m dap) :
    Calls Try.prog 4 #[.slice ao n cap, .slice bo m dap] w fun e w' => e = .returned (.bool true) ∧ New w w' := by
  have H1 := Lib.hid h1
  have H2 := Lib.hid h2
  have hn := h1.2.1
  have hm := h2.2.1
  obtain ⟨i1, hj, hy0, hy1, hy2⟩ := info_parts Try.infoRowBasin
  have INF := Lib.hid (⟨hj, hy0, hy1, hy2⟩ : Try.prog.info? 48 = some i1 ∧ i1.zero = some (.agg #[.int .i64 0, .int .i64 0, .int .i64 0]) ∧ i1.size = 3 ∧ i1.bytes = 24)
  clear h1 h2 hj hy0 hy1 hy2
  go_enter Try.func4, Try.ntmps4
  go_wp2_with fail
  refine (big_any _ ao bo n m cap dap hn hm).mono ?_
  rintro e w1 ⟨b, rfl, rfl⟩
  clear hn hm
  cases b with
  | true =>
    go_wp2
    go_ret
    exact ⟨rfl, New.refl _⟩
  | false =>
    go_wp2_with fail
    refine (drawTicksToEmpty_any _ ao n cap H1.out).mono ?_
    rintro e w1 ⟨ra, rn, rc, l, rfl, hl, hw⟩
    have IL_w1 := Lib.hid hl
    have NN_w1 := Lib.hid hw
    clear hl hw H1
    go_wp2_with fail
    refine (iTicksToEmpty_any _ ra rn rc l IL_w1.out).mono ?_
    rintro e u1 ⟨rfl, n_u1⟩
    have IL_u1 := Lib.hid (IL_w1.out.new n_u1)
    have NN_u1 := Lib.hid (NN_w1.out.trans n_u1)
    clear n_u1 NN_w1 IL_w1
    obtain ⟨tt, htt⟩ : ∃ T, T = (tteM l).1 := ⟨_, rfl⟩
    rw [← htt]
    have Htt := Lib.hid htt
    clear htt
    obtain ⟨TK, hTK⟩ : ∃ T, T = (tteM l).2 := ⟨_, rfl⟩
    rw [← hTK]
    have HTK := Lib.hid hTK
    clear hTK
    go_wp2_with fail
    refine (sTicksToEmpty_any _ ra rn rc l IL_u1.out).mono ?_
    rintro e u2 ⟨rfl, n_u2⟩
    have IL_u2 := Lib.hid (IL_u1.out.new n_u2)
    have NN_u2 := Lib.hid (NN_u1.out.trans n_u2)
    clear n_u2 NN_u1 IL_u1
    rw [← Htt.out, ← HTK.out]
    go_wp2_with fail
    refine (iHeldInRow_any _ ra rn rc l IL_u2.out).mono ?_
    rintro e u3 ⟨rfl, n_u3⟩
    have IL_u3 := Lib.hid (IL_u2.out.new n_u3)
    have NN_u3 := Lib.hid (NN_u2.out.trans n_u3)
    clear n_u3 NN_u2 IL_u2
    obtain ⟨hi, hhi⟩ : ∃ T, T = hiM l := ⟨_, rfl⟩
    rw [← hhi]
    have Hhi := Lib.hid hhi
    clear hhi
    obtain ⟨RB, hRB⟩ : ∃ T, T = rowB l := ⟨_, rfl⟩
    rw [← hRB]
    have HRB := Lib.hid hRB
    clear hRB
    go_wp2_with fail
    refine (sHeldInRow_any _ ra rn rc l IL_u3.out).mono ?_
    rintro e u4 ⟨rfl, n_u4⟩
    have IL_u4 := Lib.hid (IL_u3.out.new n_u4)
    have NN_u4 := Lib.hid (NN_u3.out.trans n_u4)
    clear n_u4 NN_u3 IL_u3
    rw [← Hhi.out, ← HRB.out]
    go_upto_region 8 with fail
    go_cut [122] from 85 to 122 (fun v W => v = .bool false ∧ New u4 W)
    case first =>
      cases TK with
      | false =>
        as_aux_lemma =>
        go_wp2_with fail
        refine (iIsRow_any _ ra rn rc l IL_u4.out).mono ?_
        rintro e z1 ⟨rfl, nz⟩
        have Z1 := Lib.hid nz
        clear nz
        rw [← HRB.out]
        go_wp2_with fail
        refine (iIsRow_any _ ra rn rc l (IL_u4.out.new Z1.out)).mono ?_
        rintro e z2 ⟨rfl, nz⟩
        have Z2 := Lib.hid (Z1.out.trans nz)
        clear nz Z1
        rw [← HRB.out]
        go_wp2_with fail
        refine (sIsRow_any _ ra rn rc l (IL_u4.out.new Z2.out)).mono ?_
        rintro e z3 ⟨rfl, nz⟩
        have Z3 := Lib.hid (Z2.out.trans nz)
        clear nz Z2
        rw [← HRB.out]
        go_wp2_with fail
        go_meet
        exact ⟨by first | rfl | simp, Z3.out⟩
      | true =>
        as_aux_lemma =>
        have rb : RB = true := by rw [HRB.out]; exact (tte_true HTK.out.symm).1
        subst rb
        go_wp2_with fail
        refine (iIsRow_any _ ra rn rc l IL_u4.out).mono ?_
        rintro e z1 ⟨rfl, nz⟩
        have Z1 := Lib.hid nz
        clear nz
        rw [← HRB.out]
        go_wp2_with fail
        refine (iIsRow_any _ ra rn rc l (IL_u4.out.new Z1.out)).mono ?_
        rintro e z2 ⟨rfl, nz⟩
        have Z2 := Lib.hid (Z1.out.trans nz)
        clear nz Z1
        rw [← HRB.out]
        go_wp2_with fail
        refine (sIsRow_any _ ra rn rc l (IL_u4.out.new Z2.out)).mono ?_
        rintro e z3 ⟨rfl, nz⟩
        have Z3 := Lib.hid (Z2.out.trans nz)
        clear nz Z2
        rw [← HRB.out]
        go_wp2_with fail
        go_meet
        exact ⟨by first | rfl | simp, Z3.out⟩
    case rest =>
    obtain ⟨rfl, ew⟩ := hcut
    obtain ⟨u5, hu5⟩ : ∃ W, W = wc := ⟨_, rfl⟩
    rw [← hu5] at ew ⊢
    have IL_u5 := Lib.hid (IL_u4.out.new ew)
    have NN_u5 := Lib.hid (NN_u4.out.trans ew)
    clear hu5 ew NN_u4 IL_u4
    go_upto_if 123 with fail
    go_cut [] from 123 to 148 (fun W => New u5 W)
    case first =>
      cases RB with
      | false =>
        go_wp2_with fail
        go_meet
        exact New.refl _
      | true =>
        as_aux_lemma =>
        have okr := rowB_iff.1 HRB.out.symm
        have OKR := Lib.hid okr
        have LR := Lib.hid IL_u5.out.1
        have r6 : rn ≤ 6 := by rw [LR.out]; exact okr.2.1
        have TI := Lib.hid (show TK = !stuckK l rn by rw [HTK.out, tte_iff HRB.out.symm, LR.out])
        obtain ⟨k0, hk0⟩ : ∃ W, W = u5 := ⟨_, rfl⟩
        have HK0 := Lib.hid hk0
        have IK := Lib.hid (show Basins k0 ra rn rc l by rw [hk0]; exact IL_u5.out)
        rw [← hk0]
        clear hk0 okr
        go_wp2
        go_loopw [14, 15, 126] (fun st sm i wr => ∃ j : Nat, j ≤ rn ∧ i = .int .i64 (j : Int) ∧ st = .bool (stuckK l j) ∧ sm = .bool (someK l j) ∧ New k0 wr) (fun _ _ i _ => rn - (intOf i).toNat)
        case atStart => exact ⟨0, Nat.zero_le _, rfl, rfl, rfl, New.refl _⟩
        case round =>
          obtain ⟨j, hj, rfl, rfl, rfl, hnw⟩ := hrel
          have NW := Lib.hid hnw
          clear hnw
          by_cases hlt : j < rn
          · as_aux_lemma =>
            obtain ⟨b, o, rfl, g0, g1, g2⟩ := (IK.out.new NW.out).2.2.2.1 j hlt
            obtain ⟨S, hS⟩ : ∃ S, S = someK l j := ⟨_, rfl⟩
            obtain ⟨T, hT⟩ : ∃ S, S = stuckK l j := ⟨_, rfl⟩
            obtain ⟨a, ha⟩ : ∃ a, a = (l[j]?.getD (0, 0, 0)).1 := ⟨_, rfl⟩
            obtain ⟨u, hu⟩ : ∃ a, a = (l[j]?.getD (0, 0, 0)).2.1 := ⟨_, rfl⟩
            obtain ⟨h, hh⟩ : ∃ a, a = (l[j]?.getD (0, 0, 0)).2.2 := ⟨_, rfl⟩
            have smk : someK l (j + 1) = (S || decide (0 < h)) := by rw [hS, hh]; rfl
            have stk : stuckK l (j + 1) = (T || (S || decide (0 < h)) && decide (u = 0)) := by rw [← smk, hT, hu]; rfl
            have SMK := Lib.hid smk
            have STK := Lib.hid stk
            rw [← ha] at g0
            rw [← hu] at g1
            rw [← hh] at g2
            rw [← hS, ← hT]
            have hltI : (j : Int) < rn := by omega
            have gk : IntKind.i64.wrap ((j : Int) + 1) = (j : Int) + 1 := i64_in _ (by omega)
            have zb : b < wr.heap.size := by have := World.block_lt_of_cell? _ _ g0; simpa using this
            clear ha hu hh hS hT smk stk
            cases T with
            | true =>
              cases S with
              | true =>
                go_wp2
                go_roundw
                case rel => exact ⟨j + 1, by omega, by go_num, by rw [STK.out]; first | rfl | rfl, by rw [SMK.out]; first | rfl | rfl, NW.out.trans (by repeat (first | with_reducible exact New.refl _ | with_reducible assumption | refine New.drewN ?_ _ | refine New.drew ?_ | refine New.alloc ?_ _ | refine New.setCell ?_ (by first | omega | (simp; omega) | (simp; done)) _ | (refine New.trans ?_ (by assumption))))⟩
                case measure => simp [intOf]; omega
              | false =>
                go_wp2
                go_roundw
                case rel => exact ⟨j + 1, by omega, by go_num, by rw [STK.out]; first | rfl | rfl, by rw [SMK.out]; first | rfl | rfl, NW.out.trans (by repeat (first | with_reducible exact New.refl _ | with_reducible assumption | refine New.drewN ?_ _ | refine New.drew ?_ | refine New.alloc ?_ _ | refine New.setCell ?_ (by first | omega | (simp; omega) | (simp; done)) _ | (refine New.trans ?_ (by assumption))))⟩
                case measure => simp [intOf]; omega
            | false =>
              cases S with
              | true =>
                by_cases hu0 : u = 0
                · skip
                  go_wp2
                  go_roundw
                  case rel => exact ⟨j + 1, by omega, by go_num, by rw [STK.out]; first | rfl | simp [hu0], by rw [SMK.out]; first | rfl | rfl, NW.out.trans (by repeat (first | with_reducible exact New.refl _ | with_reducible assumption | refine New.drewN ?_ _ | refine New.drew ?_ | refine New.alloc ?_ _ | refine New.setCell ?_ (by first | omega | (simp; omega) | (simp; done)) _ | (refine New.trans ?_ (by assumption))))⟩
                  case measure => simp [intOf]; omega
                · skip
                  go_wp2
                  go_roundw
                  case rel => exact ⟨j + 1, by omega, by go_num, by rw [STK.out]; first | rfl | simp [hu0], by rw [SMK.out]; first | rfl | rfl, NW.out.trans (by repeat (first | with_reducible exact New.refl _ | with_reducible assumption | refine New.drewN ?_ _ | refine New.drew ?_ | refine New.alloc ?_ _ | refine New.setCell ?_ (by first | omega | (simp; omega) | (simp; done)) _ | (refine New.trans ?_ (by assumption))))⟩
                  case measure => simp [intOf]; omega
              | false =>
                by_cases hp : 0 < h
                · skip
                  by_cases hu0 : u = 0
                  · skip
                    go_wp2
                    go_roundw
                    case rel => exact ⟨j + 1, by omega, by go_num, by rw [STK.out]; first | rfl | simp [hp, hu0], by rw [SMK.out]; first | rfl | simp [hp], NW.out.trans (by repeat (first | with_reducible exact New.refl _ | with_reducible assumption | refine New.drewN ?_ _ | refine New.drew ?_ | refine New.alloc ?_ _ | refine New.setCell ?_ (by first | omega | (simp; omega) | (simp; done)) _ | (refine New.trans ?_ (by assumption))))⟩
                    case measure => simp [intOf]; omega
                  · skip
                    go_wp2
                    go_roundw
                    case rel => exact ⟨j + 1, by omega, by go_num, by rw [STK.out]; first | rfl | simp [hp, hu0], by rw [SMK.out]; first | rfl | simp [hp], NW.out.trans (by repeat (first | with_reducible exact New.refl _ | with_reducible assumption | refine New.drewN ?_ _ | refine New.drew ?_ | refine New.alloc ?_ _ | refine New.setCell ?_ (by first | omega | (simp; omega) | (simp; done)) _ | (refine New.trans ?_ (by assumption))))⟩
                    case measure => simp [intOf]; omega
                · skip
                  go_wp2
                  go_roundw
                  case rel => exact ⟨j + 1, by omega, by go_num, by rw [STK.out]; first | rfl | simp [hp], by rw [SMK.out]; first | rfl | simp [hp], NW.out.trans (by repeat (first | with_reducible exact New.refl _ | with_reducible assumption | refine New.drewN ?_ _ | refine New.drew ?_ | refine New.alloc ?_ _ | refine New.setCell ?_ (by first | omega | (simp; omega) | (simp; done)) _ | (refine New.trans ?_ (by assumption))))⟩
                  case measure => simp [intOf]; omega
          · obtain rfl : rn = j := by omega
            obtain ⟨ST, hST⟩ : ∃ S, S = stuckK l rn := ⟨_, rfl⟩
            have tk := TI.out
            rw [← hST] at tk ⊢
            subst tk
            clear hST
            cases ST with
            | true =>
              go_wp2_with fail
              go_meet
              exact HK0.out ▸ NW.out
            | false =>
              go_wp2_with fail
              go_meet
              exact HK0.out ▸ NW.out
    case rest =>
    obtain ⟨u6, hu6⟩ : ∃ W, W = wc := ⟨_, rfl⟩
    rw [← hu6] at hcut ⊢
    have IL_u6 := Lib.hid (IL_u5.out.new hcut)
    have NN_u6 := Lib.hid (NN_u5.out.trans hcut)
    clear hu6 hcut NN_u5 IL_u5
    go_upto_region 21 with fail
    go_cut [153] from 149 to 153 (fun v W => v = .bool (TK && decide (tt ≤ 60)) ∧ W = u6)
    case first =>
      cases TK with
      | false =>
        go_wp2_with fail
        go_meet
        exact ⟨rfl, rfl⟩
      | true =>
        go_wp2_with fail
        go_meet
        exact ⟨by first | rfl | simp, rfl⟩
    case rest =>
    obtain ⟨rfl, ew⟩ := hcut
    subst ew
    obtain ⟨CC, hCC⟩ : ∃ T, T = (TK && decide (tt ≤ 60)) := ⟨_, rfl⟩
    rw [← hCC]
    have HCC := Lib.hid hCC
    clear hCC
    go_upto_if 153 with fail
    obtain ⟨v9, hv9⟩ : ∃ W, W = wc := ⟨_, rfl⟩
    rw [← hv9] at IL_u6 NN_u6 ⊢
    clear hv9
    go_cut [] from 154 to 200 (fun W => New v9 W)
    case first =>
      cases CC with
      | false =>
        go_wp2_with fail
        go_meet
        exact New.refl _
      | true =>
        as_aux_lemma =>
        have cc := HCC.out.symm
        rw [Bool.and_eq_true, decide_eq_true_eq] at cc
        obtain ⟨rbt, t, et, e0, _, em⟩ := tte_true (l := l) (by rw [← HTK.out]; exact cc.1)
        have RBT := Lib.hid rbt
        have E0 := Lib.hid e0
        have EM := Lib.hid em
        have ett : tt = (t : Int) := by rw [Htt.out, et]
        have t60 : t ≤ 60 := by have := cc.2; omega
        have ETT := Lib.hid ett
        have IK := Lib.hid IL_u6.out
        clear cc rbt et e0 em IL_u6
        subst ett
        have hmk1 := run_makeD (n := t) (by omega) v9
        have IM1 := Lib.hid (made_none v9 t (by omega))
        rw [Nat.mul_one] at IM1
        go_wp2_with fail
        refine (iRowAfter_any _ ra rn rc l _ t t _ (IK.out.new ((New.refl _).alloc _)) IM1.out).mono ?_
        rintro e q1 ⟨oa1, on1, oc1, rfl, own, nq⟩
        have N1 := Lib.hid ((New.refl v9).alloc _ |>.trans nq)
        have O1 := Lib.hid (show Basins q1 oa1 on1 oc1 (goK 0 l t) by rw [← (no_flow_ask RBT.out t (by omega)).2]; exact own.reads)
        clear own nq hmk1
        rw [(no_flow_ask RBT.out t (by omega)).1]
        go_wp2_with fail
        refine (iHeldInRow_any _ oa1 on1 oc1 _ O1.out).mono ?_
        rintro e q2 ⟨rfl, nq⟩
        have N2 := Lib.hid (N1.out.trans nq)
        clear nq N1 O1 IM1
        rw [rowB_iff.2 (goK_ok (rowB_iff.1 RBT.out) (Int.le_refl 0) t)]
        rw [show hiM (goK 0 l t) = 0 by unfold hiM; rw [if_pos (rowB_iff.2 (goK_ok (rowB_iff.1 RBT.out) (Int.le_refl 0) t))]; exact E0.out]
        by_cases hz : 0 < t
        · obtain ⟨k, hk⟩ : ∃ k, t = k + 1 := ⟨t - 1, by omega⟩
          have hzI : (0 : Int) < t := by omega
          have gk : IntKind.i64.wrap ((t : Int) - 1) = (k : Int) := by rw [i64_in _ (by omega)]; omega
          have k60 : k ≤ 60 := by omega
          obtain ⟨hm9, hhm⟩ : ∃ a, a = heldS (goK 0 l k) := ⟨_, rfl⟩
          have hne : ¬ hm9 = 0 := by rw [hhm]; exact EM.out k hk
          clear hk
          have hmk3 := run_makeD (n := k) (by omega) q2
          have IM3 := Lib.hid (made_none q2 k (by omega))
          rw [Nat.mul_one] at IM3
          go_wp2_with fail
          refine (iRowAfter_any _ ra rn rc l _ k k _ ((IK.out.new N2.out).new ((New.refl _).alloc _)) IM3.out).mono ?_
          rintro e q3 ⟨oa3, on3, oc3, rfl, own, nq⟩
          have N3 := Lib.hid ((New.refl q2).alloc _ |>.trans nq)
          have O3 := Lib.hid (show Basins q3 oa3 on3 oc3 (goK 0 l k) by rw [← (no_flow_ask RBT.out k (by omega)).2]; exact own.reads)
          clear own nq hmk3
          rw [(no_flow_ask RBT.out k (by omega)).1]
          go_wp2_with fail
          refine (iHeldInRow_any _ oa3 on3 oc3 _ O3.out).mono ?_
          rintro e q4 ⟨rfl, nq⟩
          have N4 := Lib.hid (N3.out.trans nq)
          clear nq N3 O3 IM3
          rw [rowB_iff.2 (goK_ok (rowB_iff.1 RBT.out) (Int.le_refl 0) k)]
          rw [show hiM (goK 0 l k) = hm9 by unfold hiM; rw [if_pos (rowB_iff.2 (goK_ok (rowB_iff.1 RBT.out) (Int.le_refl 0) k))]; exact hhm.symm]
          have HNE := Lib.hid hne
          clear hhm gk hzI k60 hne
          go_upto_region 29 with fail
          go_cut [200] from 191 to 200 (fun v W => v = .bool false ∧ W = q4)
          case first =>
            go_wp2_with fail
            go_meet
            exact ⟨by first | rfl | simp [HNE.out], rfl⟩
          case rest =>
          obtain ⟨rfl, ew⟩ := hcut
          subst ew
          go_wp2_with fail
          go_meet
          exact N2.out.trans N4.out
        · have hz0 : (t : Int) ≤ 0 := by omega
          go_wp2_with fail
          go_meet
          exact N2.out
    case rest =>
    obtain ⟨u0, hu0⟩ : ∃ W, W = wc := ⟨_, rfl⟩
    rw [← hu0] at hcut ⊢
    have NN_u0 := Lib.hid (NN_u6.out.trans hcut)
    clear hu0 hcut NN_u6 IL_u6 HCC HTK Htt Hhi HRB
    go_wp2_with fail
    refine (drawSteadyHeld_any _ bo m dap (H2.out.new NN_u0.out)).mono ?_
    rintro e y7 ⟨qa, qn, qc, r, x, rfl, own, n_y7⟩
    have NN_y7 := Lib.hid (NN_u0.out.trans n_y7)
    have IR_y7 := Lib.hid (own)
    clear n_y7 NN_u0  own
    go_wp2_with fail
    refine (iSteadyHeld_any _ qa qn qc r x IR_y7.out).mono ?_
    rintro e y8 ⟨sa, sn, sc, rfl, own, n_y8⟩
    have IR_y8 := Lib.hid (IR_y7.out.new n_y8)
    have NN_y8 := Lib.hid (NN_y7.out.trans n_y8)
    have IS_y8 := Lib.hid (own.ints)
    clear n_y8 NN_y7 IR_y7 own
    obtain ⟨FR, hFR⟩ : ∃ T, T = frB r x := ⟨_, rfl⟩
    rw [← hFR]
    have HFR := Lib.hid hFR
    clear hFR
    go_wp2_with fail
    refine (sSteadyHeld_any _ qa qn qc r x IR_y8.out).mono ?_
    rintro e y9 ⟨sa2, sn2, sc2, rfl, own, n_y9⟩
    have IR_y9 := Lib.hid (IR_y8.out.new n_y9)
    have IS_y9 := Lib.hid (IS_y8.out.new n_y9)
    have NN_y9 := Lib.hid (NN_y8.out.trans n_y9)
    have ISS_y9 := Lib.hid (own.ints)
    clear n_y9 NN_y8 IR_y8 IS_y8 own
    rw [← HFR.out]
    go_wp2_with fail
    refine (hSame_same _ sa sa2 sn sn2 sc sc2 _ IS_y9.out ISS_y9.out).mono ?_
    rintro e y10 ⟨rfl, n_y10⟩
    have IR_y10 := Lib.hid (IR_y9.out.new n_y10)
    have IS_y10 := Lib.hid (IS_y9.out.new n_y10)
    have NN_y10 := Lib.hid (NN_y9.out.trans n_y10)
    clear n_y10 NN_y9 IR_y9 IS_y9 ISS_y9
    go_upto_if 227 with fail
    go_cut [] from 227 to 283 (fun W => New y10 W)
    case first =>
      cases FR with
      | false =>
        go_wp2_with fail
        go_meet
        exact New.refl _
      | true =>
        as_aux_lemma =>
        obtain ⟨st1, st2, st3, st4, st5, st6⟩ := steady_row HFR.out.symm
        have LQ := Lib.hid IR_y10.out.1
        have okr := (frB_iff.1 HFR.out.symm).1
        have q6 : qn ≤ 6 := by rw [LQ.out]; exact okr.2.1
        obtain rfl : qn = sn := by have := IS_y10.out.1; have := LQ.out; omega
        have lq := LQ.out
        rw [← lq] at st2 st3 st4 st5 st6
        have T2 := Lib.hid st2
        have T3 := Lib.hid st3
        have T4 := Lib.hid st4
        have T5 := Lib.hid st5
        have T6 := Lib.hid st6
        clear st1 st2 st3 st4 st5 st6 lq okr
        obtain ⟨k0, hk0⟩ : ∃ W, W = y10 := ⟨_, rfl⟩
        have HK0 := Lib.hid hk0
        have IK := Lib.hid (show Basins k0 qa qn qc r by rw [hk0]; exact IR_y10.out)
        have JK := Lib.hid (show Ints k0 sa qn sc (stM r x) by rw [hk0]; exact IS_y10.out)
        rw [← hk0]
        clear hk0 IR_y10 IS_y10
        obtain ⟨lo, hlo⟩ : ∃ lo, lo = k0.heap.size := ⟨_, rfl⟩
        have HL := Lib.hid hlo
        clear hlo
        go_wp2
        go_loopw [28, 230] (fun vo i wr => ∃ j : Nat, j ≤ qn ∧ i = .int .i64 (j : Int) ∧ wr.ownsRow lo 48 3 vo j (flatBasin (restTo r (stM r x) j)) ∧ New k0 wr) (fun _ i _ => qn - (intOf i).toNat)
        case atStart => exact ⟨0, Nat.zero_le _, rfl, ⟨rfl, .inl ⟨rfl, rfl⟩⟩, New.refl _⟩
        case round =>
          obtain ⟨j, hj, rfl, hro, hnw⟩ := hrel
          have NW := Lib.hid hnw
          have RO := Lib.hid hro
          clear hnw hro
          by_cases hlt : j < qn
          · as_aux_lemma =>
            obtain ⟨vo, hvo⟩ : ∃ v, v = u28 := ⟨_, rfl⟩
            rw [← hvo] at RO ⊢
            clear hvo
            obtain ⟨b, o, rfl, g0, g1, g2⟩ := (IK.out.new NW.out).2.2.2.1 j hlt
            obtain ⟨b2, o2, rfl, hc2, _⟩ := (JK.out.new NW.out).at hlt
            obtain ⟨a, ha⟩ : ∃ a, a = (r[j]?.getD (0, 0, 0)).1 := ⟨_, rfl⟩
            obtain ⟨u, hu⟩ : ∃ a, a = (r[j]?.getD (0, 0, 0)).2.1 := ⟨_, rfl⟩
            obtain ⟨h0, hh0⟩ : ∃ a, a = (r[j]?.getD (0, 0, 0)).2.2 := ⟨_, rfl⟩
            obtain ⟨h, hh⟩ : ∃ a, a = (stM r x)[j]?.getD 0 := ⟨_, rfl⟩
            have RS := Lib.hid (show restTo r (stM r x) (j + 1) = restTo r (stM r x) j ++ [(a, u, h)] by rw [restTo_succ, ha, hu, hh])
            rw [← ha] at g0
            rw [← hu] at g1
            rw [← hh0] at g2
            rw [← hh] at hc2
            have hltI : (j : Int) < qn := by omega
            have gk : IntKind.i64.wrap ((j : Int) + 1) = (j : Int) + 1 := i64_in _ (by omega)
            have zb : b < wr.heap.size := by have := World.block_lt_of_cell? _ _ g0; simpa using this
            have zb2 : b2 < wr.heap.size := by have := World.block_lt_of_cell? _ _ hc2; simpa using this
            have zlo : lo ≤ wr.heap.size := by have := NW.out.size; have := HL.out; omega
            clear ha hu hh hh0 zb
            obtain ⟨bq, oq, eq9, cq⟩ := JK.out.2.2.2.1 j hlt
            have zb3 : b2 < lo := by
              cases eq9
              have q := World.block_lt_of_cell? _ _ cq
              have := HL.out
              simp only at q
              omega
            clear eq9 cq zb2
            go_upto_region 41 with fail
            obtain ⟨w4, hw4⟩ : ∃ W, W = wr.alloc (.cells #[.int .i64 a, .int .i64 u, .int .i64 h0] 48) := ⟨_, rfl⟩
            have n4 : New wr w4 := by rw [hw4]; exact (New.refl _).alloc _
            have x0 : w4.cell? ⟨wr.heap.size, 0, none⟩ = some (.int .i64 a) := by rw [hw4]; simp
            have x1 : w4.cell? ⟨wr.heap.size, 1, none⟩ = some (.int .i64 u) := by rw [hw4]; simp
            have x2 : w4.cell? ⟨b2, o2 + j, none⟩ = some (.int .i64 h) := n4.cell hc2
            have z4 := n4.size
            rw [← hw4]
            clear hw4 g0 g1 g2 hc2
            refine wp_region_held_drew (S := fun w' => w'.cell? ⟨wr.heap.size, 0, none⟩ = some (.int .i64 a) ∧ w'.cell? ⟨wr.heap.size, 1, none⟩ = some (.int .i64 u) ∧ w'.cell? ⟨b2, o2 + j, none⟩ = some (.int .i64 h)) (by kernel_rfl) ⟨x0, x1, x2⟩ (fun hHeld => ?_)
            refine wpAnyH_take (i := 0) (oi := ⟨some 235, _, _, _, _, _⟩) (v := ?_) rfl (by kernel_rfl) (by kernel_rfl) (by kernel_rfl) (fun _ _ _ h => h) (Or.inl ⟨by rfl, ?_⟩) hHeld ?_; rotate_left; (· (intro w_ hSw; (try dsimp only at hSw); (try go_split_ands); go_simp; (try with_reducible rfl))); (try simp only [Act.put, List.setIfInBounds_toArray, List.set_cons_zero, List.set_cons_succ])
            refine wpAnyH_take (i := 1) (oi := ⟨some 236, _, _, _, _, _⟩) (v := ?_) rfl (by kernel_rfl) (by kernel_rfl) (by kernel_rfl) (fun _ _ _ h => h) (Or.inl ⟨by rfl, ?_⟩) hHeld ?_; rotate_left; (· (intro w_ hSw; (try dsimp only at hSw); (try go_split_ands); go_simp; (try with_reducible rfl))); (try simp only [Act.put, List.setIfInBounds_toArray, List.set_cons_zero, List.set_cons_succ])
            refine wpAnyH_take (i := 2) (oi := ⟨some 237, _, _, _, _, _⟩) (v := ?_) rfl (by kernel_rfl) (by kernel_rfl) (by kernel_rfl) (fun _ _ _ h => h) (Or.inl ⟨by rfl, ?_⟩) hHeld ?_; rotate_left; (· (intro w_ hSw; (try dsimp only at hSw); (try go_split_ands); go_simp; (try with_reducible rfl))); (try simp only [Act.put, List.setIfInBounds_toArray, List.set_cons_zero, List.set_cons_succ])
            refine wpAnyH_take (i := 3) (oi := ⟨some 238, _, _, _, _, _⟩) (v := ?_) rfl (by kernel_rfl) (by kernel_rfl) (by kernel_rfl) (fun _ _ _ h => h) (Or.inl ⟨by rfl, ?_⟩) hHeld ?_; rotate_left; (· (intro w_ hSw; (try dsimp only at hSw); (try go_split_ands); go_simp; (try with_reducible rfl))); (try simp only [Act.put, List.setIfInBounds_toArray, List.set_cons_zero, List.set_cons_succ])
            refine wpAnyH_take (i := 4) (oi := ⟨some 239, _, _, _, _, _⟩) (v := ?_) rfl (by kernel_rfl) (by kernel_rfl) (by kernel_rfl) (fun _ _ _ h => h) (Or.inl ⟨by rfl, ?_⟩) hHeld ?_; rotate_left; (· (intro w_ hSw; (try dsimp only at hSw); (try go_split_ands); go_simp; (try with_reducible rfl))); (try simp only [Act.put, List.setIfInBounds_toArray, List.set_cons_zero, List.set_cons_succ])
            refine wpAnyH_take (i := 5) (oi := ⟨some 240, _, _, _, _, _⟩) (v := ?_) rfl (by kernel_rfl) (by kernel_rfl) (by kernel_rfl) (fun _ _ _ h => h) (Or.inl ⟨by rfl, ?_⟩) hHeld ?_; rotate_left; (· (intro w_ hSw; (try dsimp only at hSw); (try go_split_ands); go_simp; (try with_reducible rfl))); (try simp only [Act.put, List.setIfInBounds_toArray, List.set_cons_zero, List.set_cons_succ])
            refine wpAnyH_take (i := 6) (oi := ⟨some 241, _, _, _, _, _⟩) (v := ?_) rfl (by kernel_rfl) (by kernel_rfl) (by kernel_rfl) (fun _ _ _ h => h) (Or.inl ⟨by rfl, ?_⟩) hHeld ?_; rotate_left; (· (intro w_ hSw; (try dsimp only at hSw); (try go_split_ands); go_simp; (try with_reducible rfl))); (try simp only [Act.put, List.setIfInBounds_toArray, List.set_cons_zero, List.set_cons_succ])
            refine wpAnyH_take (i := 7) (oi := ⟨some 242, _, _, _, _, _⟩) (v := ?_) rfl (by kernel_rfl) (by kernel_rfl) (by kernel_rfl) (fun _ _ _ h => h) (Or.inl ⟨by rfl, ?_⟩) hHeld ?_; rotate_left; (· (intro w_ hSw; (try dsimp only at hSw); (try go_split_ands); go_simp; (try with_reducible rfl))); (try simp only [Act.put, List.setIfInBounds_toArray, List.set_cons_zero, List.set_cons_succ])
            refine wpAnyH_take (i := 8) (oi := ⟨some 243, _, _, _, _, _⟩) (v := ?_) rfl (by kernel_rfl) (by kernel_rfl) (by kernel_rfl) (fun _ _ _ h => h) (Or.inl ⟨by rfl, ?_⟩) hHeld ?_; rotate_left; (· (intro w_ hSw; (try dsimp only at hSw); (try go_split_ands); go_simp; (try with_reducible rfl))); (try simp only [Act.put, List.setIfInBounds_toArray, List.set_cons_zero, List.set_cons_succ])
            refine wpAnyH_take (i := 9) (oi := ⟨some 244, _, _, _, _, _⟩) (v := ?_) rfl (by kernel_rfl) (by kernel_rfl) (by kernel_rfl) (fun _ _ _ h => h) (Or.inl ⟨by rfl, ?_⟩) hHeld ?_; rotate_left; (· (intro w_ hSw; (try dsimp only at hSw); (try go_split_ands); go_simp; (try with_reducible rfl))); (try simp only [Act.put, List.setIfInBounds_toArray, List.set_cons_zero, List.set_cons_succ])
            refine wpAnyH_ready (rs := [10]) (by kernel_rfl) (by simp) ?_
            refine AllReadyH.cons (o := ⟨some 245, _, _, _, _, _⟩) rfl (fun K hK => ?_) AllReadyH.nil
            go_simp
            obtain ⟨y1, hz⟩ : ∃ z, z = (w4.alloc (.cells #[.int .i64 a, .int .i64 u, .int .i64 h] 48)).drew := ⟨_, rfl⟩
            rw [← hz]
            have ny : New w4 y1 := by rw [hz]; exact ((New.refl w4).alloc _).drew
            have ns : ∀ jj uu, [Value.int .i64 a, .int .i64 u, .int .i64 h][jj]? = some uu → y1.cell? ((⟨w4.heap.size, 0, none⟩ : Addr).add jj) = some uu := by rw [hz]; exact World.news_of_block (cs := #[.int .i64 a, .int .i64 u, .int .i64 h]) (t := 48) (fr := (0, 0)) (show ((w4.alloc (.cells #[.int .i64 a, .int .i64 u, .int .i64 h] 48)).drew).heap[w4.heap.size]? = some _ from heap_alloc_new w4 _)
            clear hz
            refine hK.out _ _ ⟨ny.cell x0, ny.cell x1, ny.cell x2⟩ (fun hHeld => ?_)
            clear hK K
            (try simp only [Act.put, List.setIfInBounds_toArray, List.set_cons_zero, List.set_cons_succ])
            refine wpAnyH_ready (rs := [11]) (by kernel_rfl) (by simp) ?_
            refine AllReadyH.cons (o := ⟨some 246, _, _, _, _, _⟩) rfl (fun K hK => ?_) AllReadyH.nil
            have zy : lo ≤ y1.heap.size := by have := ny.size; omega
            refine step_append_lies _ (by rfl) (.tmp 235) (.tmp 245) 24 (by rfl) lo 48 i1 _ 3 24 Try.underlying24 INF.out.1 INF.out.2.1 INF.out.2.2.1 INF.out.2.2.2 rfl (by decide) vo j _ (by rfl) (ownsRow_new RO.out (n4.trans ny)) ⟨w4.heap.size, 0, none⟩ 1 1 [.int .i64 a, .int .i64 u, .int .i64 h] (by rfl) (by rfl) ns (by simp [Value.oneCell']) (by omega) (by unfold maxLen; omega) (by omega) zy _ rfl ?_
            intro g cap w7 ho hg hb' hlt'
            have own7 : ∀ bb, vo.ownBlock = some bb → lo ≤ bb ∧ bb < wr.heap.size := fun bb e => RO.out.lt bb e
            have kx : ∀ bb oo (v : Value), (bb < lo ∨ wr.heap.size ≤ bb) → y1.cell? ⟨bb, oo, none⟩ = some v → w7.cell? ⟨bb, oo, none⟩ = some v := fun bb oo v hbb hc => (World.cell?_of_block (a := ⟨bb, oo, none⟩) (hg.block bb (World.block_lt_of_cell? _ _ hc) (fun e => by have q := own7 bb e.symm; omega))).trans hc
            have N7 := Lib.hid (New.grown (w0 := k0) ((NW.out.trans n4).trans ny) (ownsRow_new RO.out (n4.trans ny)) (by have := HL.out; omega) hg)
            have RO7 := Lib.hid ho
            refine hK.out _ _ ⟨kx _ _ _ (.inr (Nat.le_refl _)) (ny.cell x0), kx _ _ _ (.inr (Nat.le_refl _)) (ny.cell x1), kx _ _ _ (.inl zb3) (ny.cell x2)⟩ (fun hHeld => ?_)
            clear hK K kx own7 ho hg hb' hlt' x0 x1 x2 ns
            (try simp only [Act.put, List.setIfInBounds_toArray, List.set_cons_zero, List.set_cons_succ])
            refine wpAnyH_take (i := 12) (oi := ⟨some 28, _, _, _, _, _⟩) (v := ?_) rfl (by kernel_rfl) (by kernel_rfl) (by kernel_rfl) (fun _ _ _ h => h) (Or.inl ⟨by rfl, ?_⟩) hHeld ?_; rotate_left; (· (intro w_ hSw; (try dsimp only at hSw); (try go_split_ands); go_simp; (try with_reducible rfl))); (try simp only [Act.put, List.setIfInBounds_toArray, List.set_cons_zero, List.set_cons_succ])
            refine wpAnyH_done (by kernel_rfl) ?_ _
            clear hHeld
            go_wp2
            go_roundw
            case rel => exact ⟨j + 1, by omega, by go_num, by rw [RS.out, flatBasin_append]; exact RO7.out, N7.out⟩
            case measure => simp [intOf]; omega
          · obtain rfl : qn = j := by omega
            obtain ⟨oa, oc, eu, ow⟩ := OwnBasin.of_row RO.out
            subst eu
            have OW := Lib.hid ow.reads
            clear ow RO hlt hj
            go_wp2_with fail
            refine (iTickRow_any _ oa qn oc _ x OW.out).mono ?_
            rintro e q1 ⟨ta, tn, tc, rfl, own, n1⟩
            have TR := Lib.hid (show Basins q1 ta tn tc (restTo r (stM r x) qn) by rw [← T3.out]; exact own.reads)
            have OW1 := Lib.hid (OW.out.new n1)
            have N1 := Lib.hid (NW.out.trans n1)
            clear own n1 NW OW
            rw [T2.out, T4.out]
            go_wp2_with fail
            refine (iSteadyHeld_any _ oa qn oc _ x OW1.out).mono ?_
            rintro e q2 ⟨za, zn, zc, rfl, own, n2⟩
            have ZS := Lib.hid (show Ints q2 za zn zc (stM r x) by rw [← T6.out]; exact own.ints)
            have N2 := Lib.hid (N1.out.trans n2)
            have TR2 := Lib.hid (TR.out.new n2)
            have OW2 := Lib.hid (OW1.out.new n2)
            clear own n2 N1 TR OW1
            rw [T5.out]
            go_wp2_with fail
            refine (hBasins_same _ ta oa tn qn tc oc _ TR2.out OW2.out).mono ?_
            rintro e q3 ⟨rfl, n3⟩
            have N3 := Lib.hid (N2.out.trans n3)
            have ZS3 := Lib.hid (ZS.out.new n3)
            clear n3 N2 ZS TR2 OW2
            go_wp2_with fail
            refine (hSame_same _ za sa zn qn zc sc _ ZS3.out (JK.out.new N3.out)).mono ?_
            rintro e q4 ⟨rfl, n4⟩
            have N4 := Lib.hid (N3.out.trans n4)
            clear n4 N3
            go_wp2_with fail
            go_meet
            exact HK0.out ▸ N4.out
    case rest =>
    clear IR_y10 IS_y10 HFR
    obtain ⟨y11, hy11⟩ : ∃ W, W = wc := ⟨_, rfl⟩
    rw [← hy11] at hcut ⊢
    have NN_y11 := Lib.hid (NN_y10.out.trans hcut)
    clear hy11 hcut NN_y10 
    as_aux_lemma =>
    go_wp2_with fail
    refine (drawLeastSize_any _ bo m dap (H2.out.new NN_y11.out)).mono ?_
    rintro e o12 ⟨xa, xn, xc, l, ii, fa, fm, fc, xs, rfl, own, own2, n_o12⟩
    have NN_o12 := Lib.hid (NN_y11.out.trans n_o12)
    have IL_o12 := Lib.hid (own)
    have IX_o12 := Lib.hid (own2)
    clear n_o12 NN_y11  own
    clear own2
    go_wp2_with fail
    refine (iLeastSize_any _ xa xn xc l ii fa fm fc xs IL_o12.out IX_o12.out).mono ?_
    rintro e o13 ⟨rfl, n_o13⟩
    have IL_o13 := Lib.hid (IL_o12.out.new n_o13)
    have IX_o13 := Lib.hid (IX_o12.out.new n_o13)
    have NN_o13 := Lib.hid (NN_o12.out.trans n_o13)
    clear n_o13 NN_o12 IL_o12 IX_o12
    obtain ⟨sz, hsz⟩ : ∃ T, T = (lsM l ii xs).1 := ⟨_, rfl⟩
    rw [← hsz]
    have Hsz := Lib.hid hsz
    clear hsz
    obtain ⟨LS, hLS⟩ : ∃ T, T = (lsM l ii xs).2 := ⟨_, rfl⟩
    rw [← hLS]
    have HLS := Lib.hid hLS
    clear hLS
    go_wp2_with fail
    refine (sLeastSize_any _ xa xn xc l ii fa fm fc xs IL_o13.out IX_o13.out).mono ?_
    rintro e o14 ⟨rfl, n_o14⟩
    have IL_o14 := Lib.hid (IL_o13.out.new n_o14)
    have IX_o14 := Lib.hid (IX_o13.out.new n_o14)
    have NN_o14 := Lib.hid (NN_o13.out.trans n_o14)
    clear n_o14 NN_o13 IL_o13 IX_o13
    rw [← Hsz.out, ← HLS.out]
    go_wp2_with fail
    refine (iHeldAlong_any _ xa xn xc l ii fa fm fc xs IL_o14.out IX_o14.out).mono ?_
    rintro e o15 ⟨ha, hn, hc, rfl, own, n_o15⟩
    have IL_o15 := Lib.hid (IL_o14.out.new n_o15)
    have IX_o15 := Lib.hid (IX_o14.out.new n_o15)
    have NN_o15 := Lib.hid (NN_o14.out.trans n_o15)
    have IA_o15 := Lib.hid (own.ints)
    clear n_o15 NN_o14 IL_o14 IX_o14 own
    obtain ⟨PB, hPB⟩ : ∃ T, T = plB l ii xs := ⟨_, rfl⟩
    rw [← hPB]
    have HPB := Lib.hid hPB
    clear hPB
    go_wp2_with fail
    refine (sHeldAlong_any _ xa xn xc l ii fa fm fc xs IL_o15.out IX_o15.out).mono ?_
    rintro e o16 ⟨ha2, hn2, hc2, rfl, own, n_o16⟩
    have IL_o16 := Lib.hid (IL_o15.out.new n_o16)
    have IX_o16 := Lib.hid (IX_o15.out.new n_o16)
    have IA_o16 := Lib.hid (IA_o15.out.new n_o16)
    have NN_o16 := Lib.hid (NN_o15.out.trans n_o16)
    have IAS_o16 := Lib.hid (own.ints)
    clear n_o16 NN_o15 IL_o15 IX_o15 IA_o15 own
    rw [← HPB.out]
    go_wp2_with fail
    refine (drawTickRow_any _ bo m dap (H2.out.new NN_o16.out)).mono ?_
    rintro e o17 ⟨ya, yn, yc, y, f, rfl, own, n_o17⟩
    have IL_o17 := Lib.hid (IL_o16.out.new n_o17)
    have IX_o17 := Lib.hid (IX_o16.out.new n_o17)
    have IA_o17 := Lib.hid (IA_o16.out.new n_o17)
    have IAS_o17 := Lib.hid (IAS_o16.out.new n_o17)
    have NN_o17 := Lib.hid (NN_o16.out.trans n_o17)
    have IY_o17 := Lib.hid (own)
    clear n_o17 NN_o16 IL_o16 IX_o16 IA_o16 IAS_o16 own
    go_wp2_with fail
    refine (iTickRow_any _ ya yn yc y f IY_o17.out).mono ?_
    rintro e o18 ⟨ta, tn, tc, rfl, own, n_o18⟩
    have IL_o18 := Lib.hid (IL_o17.out.new n_o18)
    have IX_o18 := Lib.hid (IX_o17.out.new n_o18)
    have IA_o18 := Lib.hid (IA_o17.out.new n_o18)
    have IAS_o18 := Lib.hid (IAS_o17.out.new n_o18)
    have IY_o18 := Lib.hid (IY_o17.out.new n_o18)
    have NN_o18 := Lib.hid (NN_o17.out.trans n_o18)
    have IT_o18 := Lib.hid (own.reads)
    clear n_o18 NN_o17 IL_o17 IX_o17 IA_o17 IAS_o17 IY_o17 own
    obtain ⟨tg, htg⟩ : ∃ T, T = trG y f := ⟨_, rfl⟩
    rw [← htg]
    have Htg := Lib.hid htg
    clear htg
    obtain ⟨TB, hTB⟩ : ∃ T, T = trB y f := ⟨_, rfl⟩
    rw [← hTB]
    have HTB := Lib.hid hTB
    clear hTB
    go_wp2_with fail
    refine (sTickRow_any _ ya yn yc y f IY_o18.out).mono ?_
    rintro e o19 ⟨ta2, tn2, tc2, rfl, own, n_o19⟩
    have IL_o19 := Lib.hid (IL_o18.out.new n_o19)
    have IX_o19 := Lib.hid (IX_o18.out.new n_o19)
    have IA_o19 := Lib.hid (IA_o18.out.new n_o19)
    have IAS_o19 := Lib.hid (IAS_o18.out.new n_o19)
    have IY_o19 := Lib.hid (IY_o18.out.new n_o19)
    have IT_o19 := Lib.hid (IT_o18.out.new n_o19)
    have NN_o19 := Lib.hid (NN_o18.out.trans n_o19)
    have ITS_o19 := Lib.hid (own.reads)
    clear n_o19 NN_o18 IL_o18 IX_o18 IA_o18 IAS_o18 IY_o18 IT_o18 own
    rw [← Htg.out, ← HTB.out]
    go_upto_region 55 with fail
    go_cut [378] from 337 to 378 (fun v W => v = .bool false ∧ New o19 W)
    case first =>
      cases LS with
      | false =>
        as_aux_lemma =>
        go_wp2_with fail
        refine (hSame_same _ ha ha2 hn hn2 hc hc2 _ IA_o19.out IAS_o19.out).mono ?_
        rintro e z1 ⟨rfl, nz⟩
        have Z1 := Lib.hid nz
        clear nz
        go_wp2_with fail
        refine (hBasins_same _ ta ta2 tn tn2 tc tc2 _ (IT_o19.out.new Z1.out) (ITS_o19.out.new Z1.out)).mono ?_
        rintro e z2 ⟨rfl, nz⟩
        have Z2 := Lib.hid (Z1.out.trans nz)
        clear nz Z1
        go_wp2_with fail
        go_meet
        exact ⟨by first | rfl | simp, Z2.out⟩
      | true =>
        as_aux_lemma =>
        have pb : PB = true := by rw [HPB.out]; exact (least_any HLS.out.symm).1
        subst pb
        go_wp2_with fail
        refine (hSame_same _ ha ha2 hn hn2 hc hc2 _ IA_o19.out IAS_o19.out).mono ?_
        rintro e z1 ⟨rfl, nz⟩
        have Z1 := Lib.hid nz
        clear nz
        go_wp2_with fail
        refine (hBasins_same _ ta ta2 tn tn2 tc tc2 _ (IT_o19.out.new Z1.out) (ITS_o19.out.new Z1.out)).mono ?_
        rintro e z2 ⟨rfl, nz⟩
        have Z2 := Lib.hid (Z1.out.trans nz)
        clear nz Z1
        go_wp2_with fail
        go_meet
        exact ⟨by first | rfl | simp, Z2.out⟩
    case rest =>
    obtain ⟨rfl, ew⟩ := hcut
    obtain ⟨o20, ho20⟩ : ∃ W, W = wc := ⟨_, rfl⟩
    rw [← ho20] at ew ⊢
    have IL_o20 := Lib.hid (IL_o19.out.new ew)
    have IX_o20 := Lib.hid (IX_o19.out.new ew)
    have NN_o20 := Lib.hid (NN_o19.out.trans ew)
    clear ho20 ew NN_o19 IL_o19 IX_o19 IA_o19 IAS_o19 IY_o19 IT_o19 ITS_o19
    go_upto_if 379 with fail
    cases LS with
    | false =>
      go_wp2
      go_ret
      exact ⟨rfl, NN_o20.out⟩
    | true =>
      as_aux_lemma =>
      obtain ⟨_, k, ek, hk, ask, s1, s2, all⟩ := least_any HLS.out.symm
      rw [← Hsz.out] at s1 s2 all
      have ALL := Lib.hid all
      have ASK := Lib.hid ask
      have LL := Lib.hid IL_o20.out.1
      have HKL := Lib.hid hk
      have okr := (askB_iff.1 ask).1
      have x6 : xn ≤ 6 := by rw [LL.out]; exact okr.2.1
      have x1 : 0 < xn := by have := LL.out; omega
      have hkx : k < xn := by have := LL.out; omega
      have gs : IntKind.i64.wrap (sz - 1) = sz - 1 := i64_in _ (by omega)
      subst ek
      clear all ask okr hk
      obtain ⟨v9, hv9⟩ : ∃ W, W = o20.alloc (.cells #[.int .i64 sz, .int .i64 (sz - 1)] 3) := ⟨_, rfl⟩
      have N9 := Lib.hid (show New o20 v9 by rw [hv9]; exact (New.refl _).alloc _)
      have SZ := Lib.hid (show Ints v9 (some ⟨o20.heap.size, 0, none⟩) 2 2 [sz, sz - 1] by rw [hv9]; exact ints_at' o20 [sz, sz - 1] 3 rfl (by simp))
      have HV9 := Lib.hid hv9
      clear hv9
      go_wp2
      go_loopw [385] (fun i wr => ∃ j : Nat, j ≤ 2 ∧ i = .int .i64 (j : Int) ∧ New v9 wr) (fun i _ => 2 - (intOf i).toNat)
      case atStart => exact ⟨0, by omega, rfl, by rw [HV9.out]; exact New.refl _⟩
      case round =>
        obtain ⟨j, hj, rfl, hnw⟩ := hrel
        have NW := Lib.hid hnw
        clear hnw
        by_cases hlt : j < 2
        · as_aux_lemma =>
          obtain ⟨b2, o2, e2, hc2, _⟩ := (SZ.out.new NW.out).at hlt
          obtain ⟨sv, hsv⟩ : ∃ a, a = [sz, sz - 1][j]?.getD 0 := ⟨_, rfl⟩
          have sb : sv = sz ∨ sv = sz - 1 := by
            rw [hsv]
            have : j = 0 ∨ j = 1 := by omega
            rcases this with rfl | rfl
            · exact .inl rfl
            · exact .inr rfl
          rw [← hsv] at hc2
          cases e2
          rw [Nat.zero_add] at hc2
          have NX := Lib.hid (N9.out.trans NW.out)
          obtain ⟨b, o, rfl, g0, g1, g2⟩ := (IL_o20.out.new NX.out).2.2.2.1 k hkx
          obtain ⟨u, hu⟩ : ∃ a, a = (l[k]?.getD (0, 0, 0)).2.1 := ⟨_, rfl⟩
          obtain ⟨h, hh⟩ : ∃ a, a = (l[k]?.getD (0, 0, 0)).2.2 := ⟨_, rfl⟩
          have AL := Lib.hid (ALL.out sv)
          rw [← hh] at AL g2
          rw [← hu] at g1
          have HU := Lib.hid hu
          have HH := Lib.hid hh
          have hltI : (j : Int) < 2 := by omega
          have hkI : (k : Int) < xn := by omega
          have gk : IntKind.i64.wrap ((j : Int) + 1) = (j : Int) + 1 := i64_in _ (by omega)
          clear hsv hu hh g0
          by_cases c1 : sv < 1
          · go_wp2
            go_roundw
            case rel => exact ⟨j + 1, by omega, by go_num, NW.out⟩
            case measure => simp [intOf]; omega
          · by_cases c2 : sv < h
            · go_wp2
              go_roundw
              case rel => exact ⟨j + 1, by omega, by go_num, NW.out⟩
              case measure => simp [intOf]; omega
            · obtain ⟨al1, al2⟩ := AL.out (by omega) (by omega) (by rcases sb with e | e <;> omega)
              have A1 := Lib.hid al1
              have A2 := Lib.hid al2
              clear al1 al2 AL sb
              go_upto_if 399 with fail
              go_upto_region 62 with fail
              go_upto_region 63 with (at_builtin; go_must (refine wpList_append_lies _ (by rfl) (.const (.slice none 0 0)) (.tmp 400) 24 (by rfl) wr.heap.size 48 i1 _ 3 24 Try.underlying24 INF.out.1 INF.out.2.1 INF.out.2.2.1 INF.out.2.2.2 rfl (by decide) (.slice none 0 0) 0 [] (by rfl) (World.ownsRow_nil _ _ _ _) ⟨b, o, none⟩ xn xc (flatBasin l) (by rfl) (by rw [flatBasin_length, LL.out]) ((IL_o20.out.new NX.out).source) (flatBasin_one l) (by omega) (by unfold maxLen; omega) (by omega) (by omega) _ rfl ?_); intro g cap w7 ho hg hb' hlt'; have N7 := Lib.hid (New.grown (w0 := wr) (New.refl wr) (World.ownsRow_nil wr wr.heap.size 48 3) (Nat.le_refl _) hg); have RO7 := Lib.hid ho; clear ho hg hb' hlt')
              obtain ⟨_, ⟨ee1, _⟩ | ⟨g', cap', cur, ee1, hgb, hgh, hnc, _, hsz, htk⟩⟩ := (show w7.ownsRow wr.heap.size 48 3 (.slice (some ⟨g, 0, none⟩) xn cap) xn (flatBasin l) by simpa using RO7.out)
              · cases ee1
              cases ee1
              have B4 := Lib.hid (show WB w7 g cur.toList 48 by unfold WB; rw [Array.toArray_toList]; exact hgh)
              have LZ := Lib.hid (show xn * 3 ≤ cur.toList.length by rw [Array.length_toList, hsz]; omega)
              have TK9 := Lib.hid htk
              have GB := Lib.hid (show wr.heap.size ≤ g from hgb)
              obtain ⟨cs, hcs⟩ : ∃ cs, cs = cur.toList := ⟨_, rfl⟩
              rw [← hcs] at B4 LZ TK9
              clear hcs hgh htk hsz hgb
              obtain ⟨b3, o3, eb3, _, f1, f2⟩ := (IL_o20.out.new (NX.out.trans N7.out)).2.2.2.1 k hkx
              cases eb3
              rw [← HU.out] at f1
              rw [← HH.out] at f2
              have p0 : (0 : Int) ≤ (k : Int) := by omega
              clear RO7 g1 g2 hc2 c1 c2
              refine wp_region_held_drew (S := fun w' => w'.cell? ⟨b, o + k * 3 + 1, none⟩ = some (.int .i64 u) ∧ w'.cell? ⟨b, o + k * 3 + 2, none⟩ = some (.int .i64 h)) (by kernel_rfl) ⟨f1, f2⟩ (fun hHeld => ?_)
              refine wpAnyH_take (i := 0) (oi := ⟨some 402, _, _, _, _, _⟩) (v := ?_) rfl (by kernel_rfl) (by kernel_rfl) (by kernel_rfl) (fun _ _ _ h => h) (Or.inl ⟨by rfl, ?_⟩) hHeld ?_; rotate_left; (· (intro w_ hSw; (try dsimp only at hSw); (try go_split_ands); go_simp; (try with_reducible rfl))); (try simp only [Act.put, List.setIfInBounds_toArray, List.set_cons_zero, List.set_cons_succ])
              refine wpAnyH_take (i := 1) (oi := ⟨some 403, _, _, _, _, _⟩) (v := ?_) rfl (by kernel_rfl) (by kernel_rfl) (by kernel_rfl) (fun _ _ _ h => h) (Or.inl ⟨by rfl, ?_⟩) hHeld ?_; rotate_left; (· (intro w_ hSw; (try dsimp only at hSw); (try go_split_ands); go_simp; (try with_reducible rfl))); (try simp only [Act.put, List.setIfInBounds_toArray, List.set_cons_zero, List.set_cons_succ])
              refine wpAnyH_take (i := 2) (oi := ⟨some 404, _, _, _, _, _⟩) (v := ?_) rfl (by kernel_rfl) (by kernel_rfl) (by kernel_rfl) (fun _ _ _ h => h) (Or.inl ⟨by rfl, ?_⟩) hHeld ?_; rotate_left; (· (intro w_ hSw; (try dsimp only at hSw); (try go_split_ands); go_simp; (try with_reducible rfl))); (try simp only [Act.put, List.setIfInBounds_toArray, List.set_cons_zero, List.set_cons_succ])
              refine wpAnyH_take (i := 3) (oi := ⟨some 405, _, _, _, _, _⟩) (v := ?_) rfl (by kernel_rfl) (by kernel_rfl) (by kernel_rfl) (fun _ _ _ h => h) (Or.inl ⟨by rfl, ?_⟩) hHeld ?_; rotate_left; (· (intro w_ hSw; (try dsimp only at hSw); (try go_split_ands); go_simp; (try with_reducible rfl))); (try simp only [Act.put, List.setIfInBounds_toArray, List.set_cons_zero, List.set_cons_succ])
              refine wpAnyH_take (i := 4) (oi := ⟨some 406, _, _, _, _, _⟩) (v := ?_) rfl (by kernel_rfl) (by kernel_rfl) (by kernel_rfl) (fun _ _ _ h => h) (Or.inl ⟨by rfl, ?_⟩) hHeld ?_; rotate_left; (· (intro w_ hSw; (try dsimp only at hSw); (try go_split_ands); go_simp; (try with_reducible rfl))); (try simp only [Act.put, List.setIfInBounds_toArray, List.set_cons_zero, List.set_cons_succ])
              refine wpAnyH_take (i := 5) (oi := ⟨some 407, _, _, _, _, _⟩) (v := ?_) rfl (by kernel_rfl) (by kernel_rfl) (by kernel_rfl) (fun _ _ _ h => h) (Or.inl ⟨by rfl, ?_⟩) hHeld ?_; rotate_left; (· (intro w_ hSw; (try dsimp only at hSw); (try go_split_ands); go_simp; (try with_reducible rfl))); (try simp only [Act.put, List.setIfInBounds_toArray, List.set_cons_zero, List.set_cons_succ])
              refine wpAnyH_take (i := 6) (oi := ⟨some 408, _, _, _, _, _⟩) (v := ?_) rfl (by kernel_rfl) (by kernel_rfl) (by kernel_rfl) (fun _ _ _ h => h) (Or.inl ⟨by rfl, ?_⟩) hHeld ?_; rotate_left; (· (intro w_ hSw; (try dsimp only at hSw); (try go_split_ands); go_simp; (try with_reducible rfl))); (try simp only [Act.put, List.setIfInBounds_toArray, List.set_cons_zero, List.set_cons_succ])
              refine wpAnyH_take (i := 7) (oi := ⟨some 409, _, _, _, _, _⟩) (v := ?_) rfl (by kernel_rfl) (by kernel_rfl) (by kernel_rfl) (fun _ _ _ h => h) (Or.inl ⟨by rfl, ?_⟩) hHeld ?_; rotate_left; (· (intro w_ hSw; (try dsimp only at hSw); (try go_split_ands); go_simp; (try with_reducible rfl))); (try simp only [Act.put, List.setIfInBounds_toArray, List.set_cons_zero, List.set_cons_succ])
              refine wpAnyH_take (i := 8) (oi := ⟨some 410, _, _, _, _, _⟩) (v := ?_) rfl (by kernel_rfl) (by kernel_rfl) (by kernel_rfl) (fun _ _ _ h => h) (Or.inl ⟨by rfl, ?_⟩) hHeld ?_; rotate_left; (· (intro w_ hSw; (try dsimp only at hSw); (try go_split_ands); go_simp; (try with_reducible rfl))); (try simp only [Act.put, List.setIfInBounds_toArray, List.set_cons_zero, List.set_cons_succ])
              refine wpAnyH_take (i := 9) (oi := ⟨some 411, _, _, _, _, _⟩) (v := ?_) rfl (by kernel_rfl) (by kernel_rfl) (by kernel_rfl) (fun _ _ _ h => h) (Or.inl ⟨by rfl, ?_⟩) hHeld ?_; rotate_left; (· (intro w_ hSw; (try dsimp only at hSw); (try go_split_ands); go_simp; (try with_reducible rfl))); (try simp only [Act.put, List.setIfInBounds_toArray, List.set_cons_zero, List.set_cons_succ])
              refine wpAnyH_take (i := 10) (oi := ⟨some 412, _, _, _, _, _⟩) (v := ?_) rfl (by kernel_rfl) (by kernel_rfl) (by kernel_rfl) (fun _ _ _ h => h) (Or.inl ⟨by rfl, ?_⟩) hHeld ?_; rotate_left; (· (intro w_ hSw; (try dsimp only at hSw); (try go_split_ands); go_simp; (try with_reducible rfl))); (try simp only [Act.put, List.setIfInBounds_toArray, List.set_cons_zero, List.set_cons_succ])
              refine wpAnyH_take (i := 11) (oi := ⟨some 413, _, _, _, _, _⟩) (v := ?_) rfl (by kernel_rfl) (by kernel_rfl) (by kernel_rfl) (fun _ _ _ h => h) (Or.inl ⟨by rfl, ?_⟩) hHeld ?_; rotate_left; (· (intro w_ hSw; (try dsimp only at hSw); (try go_split_ands); go_simp; (try with_reducible rfl))); (try simp only [Act.put, List.setIfInBounds_toArray, List.set_cons_zero, List.set_cons_succ])
              refine wpAnyH_take (i := 12) (oi := ⟨some 414, _, _, _, _, _⟩) (v := ?_) rfl (by kernel_rfl) (by kernel_rfl) (by kernel_rfl) (fun _ _ _ h => h) (Or.inl ⟨by rfl, ?_⟩) hHeld ?_; rotate_left; (· (intro w_ hSw; (try dsimp only at hSw); (try go_split_ands); go_simp; (try with_reducible rfl))); (try simp only [Act.put, List.setIfInBounds_toArray, List.set_cons_zero, List.set_cons_succ])
              refine wpAnyH_take (i := 13) (oi := ⟨some 415, _, _, _, _, _⟩) (v := ?_) rfl (by kernel_rfl) (by kernel_rfl) (by kernel_rfl) (fun _ _ _ h => h) (Or.inl ⟨by rfl, ?_⟩) hHeld ?_; rotate_left; (· (intro w_ hSw; (try dsimp only at hSw); (try go_split_ands); go_simp; (try with_reducible rfl))); (try simp only [Act.put, List.setIfInBounds_toArray, List.set_cons_zero, List.set_cons_succ])
              refine wpAnyH_take (i := 14) (oi := ⟨some 416, _, _, _, _, _⟩) (v := ?_) rfl (by kernel_rfl) (by kernel_rfl) (by kernel_rfl) (fun _ _ _ h => h) (Or.inl ⟨by rfl, ?_⟩) hHeld ?_; rotate_left; (· (intro w_ hSw; (try dsimp only at hSw); (try go_split_ands); go_simp; (try with_reducible rfl))); (try simp only [Act.put, List.setIfInBounds_toArray, List.set_cons_zero, List.set_cons_succ])
              refine wpAnyH_ready (rs := [15]) (by kernel_rfl) (by simp) ?_
              refine AllReadyH.cons (o := ⟨none, _, _, _, _, _⟩) rfl (fun K hK => ?_) AllReadyH.nil
              rw [if_pos (by rfl)]
              refine wp_store_blk 48 (.tmp 416) (.tmp 415) rfl g (k * 3) cs [.int .i64 sv, .int .i64 u, .int .i64 h] 48 rfl rfl (show WB w7.drew g cs 48 from B4.out) (by have := LZ.out; simp; omega) (by kernel_rfl) (by simp [Value.oneCell']) ?_
              intro w8 hb5 hc5
              have zbg : b < g := by have q := World.block_lt_of_cell? _ _ ((IL_o20.out.new NX.out).2.2.2.1 k hkx |> fun ⟨bb, oo, ee, c0, _, _⟩ => by cases ee; exact c0); have := GB.out; simp at q; omega
              refine hK.out _ _ ⟨hc5.cell f1 (by simp; omega), hc5.cell f2 (by simp; omega)⟩ (fun hHeld => ?_)
              clear hK K hHeld
              try simp only [Act.put]
              refine wpAnyH_done (by kernel_rfl) ?_ _
              have NOW := Lib.hid (Basins.of_store hb5 LL.out hnc (by omega) hkx LZ.out TK9.out HU.out HH.out)
              have N8 := Lib.hid (show New wr w8 from Chg.new (w0 := wr) (N7.out.trans (show New w7 w7.drew from (by repeat (first | with_reducible exact New.refl _ | with_reducible assumption | refine New.drewN ?_ _ | refine New.drew ?_ | refine New.alloc ?_ _ | refine New.setCell ?_ (by first | omega | (simp; omega) | (simp; done)) _ | (refine New.trans ?_ (by assumption)))))) hc5 (fun b hb => by have := GB.out; omega))
              clear hb5 hc5 f1 f2 B4 LZ TK9
              · skip
                go_wp2_with fail
                refine (iSpillsOf_any _ (some ⟨g, 0, none⟩) xn cap (setS l k sv) fa fm fc xs NOW.out (IX_o20.out.new (NX.out.trans N8.out))).mono ?_
                rintro e w9 ⟨pa, pn, pc, rfl, own, n9⟩
                have IP := Lib.hid own.ints
                have M9 := Lib.hid (N8.out.trans n9)
                clear own n9 NOW N8
                rw [A1.out]
                have lp : pn = xn := by rw [IP.out.1, soM_length A1.out, setS_length, LL.out]
                obtain ⟨b4, o4, rfl, hp4, _⟩ := IP.out.at (j := k) (by omega)
                have A3 := A2.out
                obtain ⟨pv, hpv⟩ : ∃ a, a = (soM (setS l k sv) xs)[k]?.getD 0 := ⟨_, rfl⟩
                rw [← hpv] at hp4 A3
                have hkp : (k : Int) < pn := by omega
                clear hpv lp
                by_cases hs : sv < sz
                · have hq : 0 < pv := A3.2 hs
                  clear A3
                  go_wp2
                  go_roundw
                  case rel => exact ⟨j + 1, by omega, by go_num, NW.out.trans M9.out⟩
                  case measure => simp [intOf]; omega
                · have hq : ¬ 0 < pv := fun q => hs (A3.1 q)
                  clear A3
                  go_wp2
                  · rename_i hx
                    rw [decide_eq_false (show ¬ 0 < pv by omega), decide_eq_false (show ¬ sv < sz by omega)] at hx
                    exact absurd hx (by decide)
                  go_roundw
                  case rel => exact ⟨j + 1, by omega, by go_num, NW.out.trans M9.out⟩
                  case measure => simp [intOf]; omega
        · obtain rfl : j = 2 := by omega
          go_wp2
          go_ret
          exact ⟨rfl, NN_o20.out.trans (N9.out.trans NW.out)⟩
end Go.Proofs.Ytchnnbkaiagpgaa
