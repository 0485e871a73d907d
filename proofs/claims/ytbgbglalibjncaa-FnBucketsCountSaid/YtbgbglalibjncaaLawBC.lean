/- The law of buckets that count. -/
import Derived.Test.YtbgbglalibjncaaDrh
import Derived.Test.YtbgbglalibjncaaEsb
import Derived.Test.YtbgbglalibjncaaBcm
import Derived.Test.YtbgbglalibjncaaBuckJ
import Derived.Deep.CutRange
namespace Go.Proofs.Ytbgbglalibjncaa
open Go.RowKit Go.IntWalk

theorem big_any (w : World) (ao bo : Option Addr) (n m cap dap : Nat) (hn : n ≤ 9223372036854775807) (_hm : m ≤ 9223372036854775807) :
    Calls Try.prog 4 #[.slice ao n cap, .slice bo m dap] w fun e w' => ∃ b : Bool, e = .returned (.bool b) ∧ w = w' := by
  by_cases h1 : 1048576 < (n : Int)
  · go_enter Try.func4, Try.ntmps4
    go_wp2
    go_ret
    first | exact ⟨_, rfl, rfl⟩ | exact ⟨.inl rfl, rfl⟩ | exact ⟨.inr rfl, rfl⟩
  · have g : IntKind.i64.wrap (1048576 - (n : Int)) = 1048576 - (n : Int) := i64_in _ (by omega)
    by_cases h2 : 1048576 - (n : Int) < m
    · go_enter Try.func4, Try.ntmps4
      go_wp2
      go_ret
      first | exact ⟨_, rfl, rfl⟩ | exact ⟨.inl rfl, rfl⟩ | exact ⟨.inr rfl, rfl⟩
    · go_enter Try.func4, Try.ntmps4
      go_wp2
      go_ret
      first | exact ⟨_, rfl, rfl⟩ | exact ⟨.inl rfl, rfl⟩ | exact ⟨.inr rfl, rfl⟩

theorem tad_haf (c : List Int) (x : Int) : tadB c x = (hafB c x && decide (0 < x)) := by
  unfold tadB hafB dropB
  by_cases h : 0 < x
  · rw [decide_eq_true h, Bool.and_true]
    congr 1
    have e : (inB 1 1000000 x = true) = (inB 0 1000000 x = true) := by rw [inB_iff, inB_iff]; exact propext ⟨fun q => ⟨by omega, q.2⟩, fun q => ⟨by omega, q.2⟩⟩
    cases h1 : inB 1 1000000 x <;> cases h2 : inB 0 1000000 x <;> simp_all
  · rw [decide_eq_false h, Bool.and_false]
    have e : inB 1 1000000 x = false := by
      cases q : inB 1 1000000 x with
      | false => rfl
      | true => have := inB_iff.1 q; omega
    rw [e, Bool.and_false]

set_option maxRecDepth 100000 in
set_option maxHeartbeats 16000000 in
theorem law_BucketsCount (w : World) (ao bo : Option Addr) (n m cap dap : Nat) (h1 : Byts w ao n cap) (h2 : Byts w bo m dap) :
    Calls Try.prog 3 #[.slice ao n cap, .slice bo m dap] w fun e w' => e = .returned (.bool true) ∧ New w w' := by
  have H1 := Lib.hid h1
  have H2 := Lib.hid h2
  have hn := h1.2.1
  have hm := h2.2.1
  clear h1 h2
  go_enter Try.func3, Try.ntmps3
  go_wp2_with fail
  refine (big_any _ ao bo n m cap dap hn hm).mono ?_
  rintro e w1 ⟨b, rfl, rfl⟩
  clear hn hm
  cases b with
  | true =>
    go_wp2
    go_ret
    exact ⟨rfl, New.refl _⟩
  | false =>
    go_wp2_with fail
    refine (drawHeld_any _ ao n cap H1.out).mono ?_
    rintro e w1 ⟨ca, cn, cc, c, x, rfl, hi, hw⟩
    have IC_w1 := Lib.hid hi
    have NN_w1 := Lib.hid hw
    clear hi hw H1
    go_wp2_with fail
    refine (iHeldAfter_any _ ca cn cc c x IC_w1.out).mono ?_
    rintro e u1 ⟨ha, hhn, hc, rfl, own, n_u1⟩
    have IC_u1 := Lib.hid (IC_w1.out.new n_u1)
    have NN_u1 := Lib.hid (NN_w1.out.trans n_u1)
    have IH_u1 := Lib.hid own.ints
    clear own
    clear n_u1 NN_w1 IC_w1
    obtain ⟨K, hK⟩ : ∃ T, T = hafB c x := ⟨_, rfl⟩
    rw [← hK]
    have HK := Lib.hid hK
    clear hK
    go_wp2_with fail
    refine (sHeldAfter_any _ ca cn cc c x IC_u1.out).mono ?_
    rintro e u2 ⟨ra, rn, rc, rfl, own, n_u2⟩
    have IC_u2 := Lib.hid (IC_u1.out.new n_u2)
    have IH_u2 := Lib.hid (IH_u1.out.new n_u2)
    have NN_u2 := Lib.hid (NN_u1.out.trans n_u2)
    have IR_u2 := Lib.hid own.ints
    clear own
    clear n_u2 NN_u1 IC_u1 IH_u1
    rw [← HK.out]
    go_wp2_with fail
    refine (iTipsAfter_any _ ca cn cc c x IC_u2.out).mono ?_
    rintro e u3 ⟨ta, tn, tc, rfl, own, n_u3⟩
    have IC_u3 := Lib.hid (IC_u2.out.new n_u3)
    have IH_u3 := Lib.hid (IH_u2.out.new n_u3)
    have IR_u3 := Lib.hid (IR_u2.out.new n_u3)
    have NN_u3 := Lib.hid (NN_u2.out.trans n_u3)
    have IT_u3 := Lib.hid own.ints
    clear own
    clear n_u3 NN_u2 IC_u2 IH_u2 IR_u2
    rw [← HK.out]
    go_wp2_with fail
    refine (sTipsAfter_any _ ca cn cc c x IC_u3.out).mono ?_
    rintro e u4 ⟨wa, wn, wc0, rfl, own, n_u4⟩
    have IC_u4 := Lib.hid (IC_u3.out.new n_u4)
    have IH_u4 := Lib.hid (IH_u3.out.new n_u4)
    have IR_u4 := Lib.hid (IR_u3.out.new n_u4)
    have IT_u4 := Lib.hid (IT_u3.out.new n_u4)
    have NN_u4 := Lib.hid (NN_u3.out.trans n_u4)
    have IW_u4 := Lib.hid own.ints
    clear own
    clear n_u4 NN_u3 IC_u3 IH_u3 IR_u3 IT_u3
    rw [← HK.out]
    go_wp2_with fail
    refine (iTipsAtDrop_any _ ca cn cc c x IC_u4.out).mono ?_
    rintro e u5 ⟨rfl, n_u5⟩
    have IC_u5 := Lib.hid (IC_u4.out.new n_u5)
    have IH_u5 := Lib.hid (IH_u4.out.new n_u5)
    have IR_u5 := Lib.hid (IR_u4.out.new n_u5)
    have IT_u5 := Lib.hid (IT_u4.out.new n_u5)
    have IW_u5 := Lib.hid (IW_u4.out.new n_u5)
    have NN_u5 := Lib.hid (NN_u4.out.trans n_u5)
    clear n_u5 NN_u4 IC_u4 IH_u4 IR_u4 IT_u4 IW_u4
    obtain ⟨at9, hat9⟩ : ∃ T, T = tadI c x := ⟨_, rfl⟩
    rw [← hat9]
    have Hat9 := Lib.hid hat9
    clear hat9
    obtain ⟨Q, hQ⟩ : ∃ T, T = tadB c x := ⟨_, rfl⟩
    rw [← hQ]
    have HQ := Lib.hid hQ
    clear hQ
    go_wp2_with fail
    refine (sTipsAtDrop_any _ ca cn cc c x IC_u5.out).mono ?_
    rintro e u6 ⟨rfl, n_u6⟩
    have IC_u6 := Lib.hid (IC_u5.out.new n_u6)
    have IH_u6 := Lib.hid (IH_u5.out.new n_u6)
    have IR_u6 := Lib.hid (IR_u5.out.new n_u6)
    have IT_u6 := Lib.hid (IT_u5.out.new n_u6)
    have IW_u6 := Lib.hid (IW_u5.out.new n_u6)
    have NN_u6 := Lib.hid (NN_u5.out.trans n_u6)
    clear n_u6 NN_u5 IC_u5 IH_u5 IR_u5 IT_u5 IW_u5
    rw [← Hat9.out, ← HQ.out]
    go_wp2_with fail
    refine (iRoundOf_any _ ca cn cc c IC_u6.out).mono ?_
    rintro e u7 ⟨rfl, n_u7⟩
    have IC_u7 := Lib.hid (IC_u6.out.new n_u7)
    have IH_u7 := Lib.hid (IH_u6.out.new n_u7)
    have IR_u7 := Lib.hid (IR_u6.out.new n_u7)
    have IT_u7 := Lib.hid (IT_u6.out.new n_u7)
    have IW_u7 := Lib.hid (IW_u6.out.new n_u7)
    have NN_u7 := Lib.hid (NN_u6.out.trans n_u7)
    clear n_u7 NN_u6 IC_u6 IH_u6 IR_u6 IT_u6 IW_u6
    obtain ⟨rd, hrd⟩ : ∃ T, T = roundM c := ⟨_, rfl⟩
    rw [← hrd]
    have Hrd := Lib.hid hrd
    clear hrd
    obtain ⟨CB, hCB⟩ : ∃ T, T = capsB c := ⟨_, rfl⟩
    rw [← hCB]
    have HCB := Lib.hid hCB
    clear hCB
    go_wp2_with fail
    refine (sRoundOf_any _ ca cn cc c IC_u7.out).mono ?_
    rintro e u8 ⟨rfl, n_u8⟩
    have IC_u8 := Lib.hid (IC_u7.out.new n_u8)
    have IH_u8 := Lib.hid (IH_u7.out.new n_u8)
    have IR_u8 := Lib.hid (IR_u7.out.new n_u8)
    have IT_u8 := Lib.hid (IT_u7.out.new n_u8)
    have IW_u8 := Lib.hid (IW_u7.out.new n_u8)
    have NN_u8 := Lib.hid (NN_u7.out.trans n_u8)
    clear n_u8 NN_u7 IC_u7 IH_u7 IR_u7 IT_u7 IW_u7
    rw [← Hrd.out, ← HCB.out]
    have TQ := Lib.hid (tad_haf c x)
    rw [← HQ.out, ← HK.out] at TQ
    go_upto_region 12 with fail
    go_cut [178] from 112 to 178 (fun v W => v = .bool false ∧ New u8 W)
    case first =>
      cases K with
      | false =>
        have q : Q = false := by rw [TQ.out]; rfl
        subst q
        as_aux_lemma =>
        go_wp2_with fail
        refine (eSame_same _ ha ra hhn rn hc rc _ IH_u8.out IR_u8.out).mono ?_
        rintro e z1 ⟨rfl, nz⟩
        have Z1 := Lib.hid nz
        clear nz
        go_wp2_with fail
        refine (eSame_same _ ta wa tn wn tc wc0 _ (IT_u8.out.new Z1.out) (IW_u8.out.new Z1.out)).mono ?_
        rintro e z2 ⟨rfl, nz⟩
        have Z2 := Lib.hid (Z1.out.trans nz)
        clear nz Z1
        go_wp2_with fail
        refine (iAreCaps_any _ ca cn cc c (IC_u8.out.new Z2.out)).mono ?_
        rintro e z3 ⟨rfl, nz⟩
        have Z3 := Lib.hid (Z2.out.trans nz)
        clear nz Z2
        rw [← HCB.out]
        go_wp2_with fail
        refine (iAreCaps_any _ ca cn cc c (IC_u8.out.new Z3.out)).mono ?_
        rintro e z4 ⟨rfl, nz⟩
        have Z4 := Lib.hid (Z3.out.trans nz)
        clear nz Z3
        rw [← HCB.out]
        go_wp2_with fail
        refine (sAreCaps_any _ ca cn cc c (IC_u8.out.new Z4.out)).mono ?_
        rintro e z5 ⟨rfl, nz⟩
        have Z5 := Lib.hid (Z4.out.trans nz)
        clear nz Z4
        rw [← HCB.out]
        go_wp2_with fail
        go_meet
        exact ⟨by first | rfl | (simp; omega), Z5.out⟩
      | true =>
        by_cases hx : 0 < x
        · have q : Q = true := by rw [TQ.out, decide_eq_true hx]; rfl
          subst q
          as_aux_lemma =>
          go_wp2_with fail
          refine (eSame_same _ ha ra hhn rn hc rc _ IH_u8.out IR_u8.out).mono ?_
          rintro e z1 ⟨rfl, nz⟩
          have Z1 := Lib.hid nz
          clear nz
          go_wp2_with fail
          refine (eSame_same _ ta wa tn wn tc wc0 _ (IT_u8.out.new Z1.out) (IW_u8.out.new Z1.out)).mono ?_
          rintro e z2 ⟨rfl, nz⟩
          have Z2 := Lib.hid (Z1.out.trans nz)
          clear nz Z1
          go_wp2_with fail
          refine (iAreCaps_any _ ca cn cc c (IC_u8.out.new Z2.out)).mono ?_
          rintro e z3 ⟨rfl, nz⟩
          have Z3 := Lib.hid (Z2.out.trans nz)
          clear nz Z2
          rw [← HCB.out]
          go_wp2_with fail
          refine (iAreCaps_any _ ca cn cc c (IC_u8.out.new Z3.out)).mono ?_
          rintro e z4 ⟨rfl, nz⟩
          have Z4 := Lib.hid (Z3.out.trans nz)
          clear nz Z3
          rw [← HCB.out]
          go_wp2_with fail
          refine (sAreCaps_any _ ca cn cc c (IC_u8.out.new Z4.out)).mono ?_
          rintro e z5 ⟨rfl, nz⟩
          have Z5 := Lib.hid (Z4.out.trans nz)
          clear nz Z4
          rw [← HCB.out]
          go_wp2_with fail
          go_meet
          exact ⟨by first | rfl | (simp; omega), Z5.out⟩
        · have q : Q = false := by rw [TQ.out, decide_eq_false hx]; rfl
          subst q
          as_aux_lemma =>
          go_wp2_with fail
          refine (eSame_same _ ha ra hhn rn hc rc _ IH_u8.out IR_u8.out).mono ?_
          rintro e z1 ⟨rfl, nz⟩
          have Z1 := Lib.hid nz
          clear nz
          go_wp2_with fail
          refine (eSame_same _ ta wa tn wn tc wc0 _ (IT_u8.out.new Z1.out) (IW_u8.out.new Z1.out)).mono ?_
          rintro e z2 ⟨rfl, nz⟩
          have Z2 := Lib.hid (Z1.out.trans nz)
          clear nz Z1
          go_wp2_with fail
          refine (iAreCaps_any _ ca cn cc c (IC_u8.out.new Z2.out)).mono ?_
          rintro e z3 ⟨rfl, nz⟩
          have Z3 := Lib.hid (Z2.out.trans nz)
          clear nz Z2
          rw [← HCB.out]
          go_wp2_with fail
          refine (iAreCaps_any _ ca cn cc c (IC_u8.out.new Z3.out)).mono ?_
          rintro e z4 ⟨rfl, nz⟩
          have Z4 := Lib.hid (Z3.out.trans nz)
          clear nz Z3
          rw [← HCB.out]
          go_wp2_with fail
          refine (sAreCaps_any _ ca cn cc c (IC_u8.out.new Z4.out)).mono ?_
          rintro e z5 ⟨rfl, nz⟩
          have Z5 := Lib.hid (Z4.out.trans nz)
          clear nz Z4
          rw [← HCB.out]
          go_wp2_with fail
          go_meet
          exact ⟨by first | rfl | (simp; omega), Z5.out⟩
    case rest =>
    obtain ⟨rfl, ew⟩ := hcut
    obtain ⟨v1, hv1⟩ : ∃ W, W = wc := ⟨_, rfl⟩
    rw [← hv1] at ew ⊢
    have NN_v1 := Lib.hid (NN_u8.out.trans ew)
    have IC_v1 := Lib.hid (IC_u8.out.new ew)
    have IH_v1 := Lib.hid (IH_u8.out.new ew)
    have IT_v1 := Lib.hid (IT_u8.out.new ew)
    clear hv1 ew NN_u8 IC_u8 IH_u8 IT_u8 IR_u8 IW_u8
    go_upto_if 179 with fail
    go_cut [] from 179 to 310 (fun W => New v1 W)
    case first =>
      cases K with
      | false =>
        go_wp2_with fail
        go_meet
        exact New.refl _
      | true =>
        as_aux_lemma =>
        obtain ⟨okc, x0, x9⟩ := hafB_iff.1 HK.out.symm
        have OKC := Lib.hid okc
        have ehl : hafM c x = rstTo c (zeros c.length) x c.length := by unfold hafM; rw [if_pos HK.out.symm]
        have etl : tafM c x = tipTo c (zeros c.length) x c.length := by unfold tafM; rw [if_pos HK.out.symm]
        have IH := Lib.hid (show Ints v1 ha hhn hc (rstTo c (zeros c.length) x c.length) by rw [← ehl]; exact IH_v1.out)
        have IT := Lib.hid (show Ints v1 ta tn tc (tipTo c (zeros c.length) x c.length) by rw [← etl]; exact IT_v1.out)
        have lc := IC_v1.out.1
        have lh := IH.out.1
        have lt := IT.out.1
        rw [rstTo_length] at lh
        rw [tipTo_length] at lt
        obtain rfl : hhn = cn := by omega
        obtain rfl : tn = hhn := by omega
        have LC := Lib.hid lc
        have t6 : tn ≤ 6 := by have := okc.1.2; omega
        clear okc ehl etl IH_v1 IT_v1 lc lh lt
        go_wp2
        go_loopw [23, 183] (fun come i wr => ∃ j : Nat, j ≤ tn ∧ i = .int .i64 (j : Int) ∧ come = .int .i64 (carK c (zeros c.length) x j) ∧ ∃ q, wr = v1.drewN q) (fun _ i _ => tn - (intOf i).toNat)
        case atStart => exact ⟨0, Nat.zero_le _, rfl, rfl, 0, rfl⟩
        case round =>
          obtain ⟨j, hj, rfl, rfl, q, rfl⟩ := hrel
          by_cases hlt : j < tn
          · have jl : j < c.length := by have := LC.out; omega
            have cap2 := OKC.out.2 j jl
            have rb := rstK_bd OKC.out (zeros_ok OKC.out) x0 jl
            have cb := carK_bd OKC.out (zeros_ok OKC.out) x0 j (by omega)
            have cb1 := carK_bd OKC.out (zeros_ok OKC.out) x0 (j + 1) (by omega)
            have dv := Int.mul_ediv_add_emod (carK c (zeros c.length) x j) (c[j]?.getD 0)
            have e1 : carK c (zeros c.length) x (j + 1) = carK c (zeros c.length) x j / c[j]?.getD 0 := by rw [carK_succ, zeros_get, Int.add_zero]
            have e2 : rstK c (zeros c.length) x j = carK c (zeros c.length) x j % c[j]?.getD 0 := by rw [rstK_def, zeros_get, Int.add_zero]
            rw [← e1, ← e2, Int.mul_comm] at dv
            obtain ⟨b1, o1, rfl, hc1, _⟩ := IC_v1.out.at hlt
            obtain ⟨b2, o2, rfl, hc2, _⟩ := IH.out.at hlt
            obtain ⟨b3, o3, rfl, hc3, _⟩ := IT.out.at hlt
            rw [rstTo_get _ _ _ jl] at hc2
            rw [tipTo_get _ _ _ jl] at hc3
            obtain ⟨a, hA⟩ : ∃ a, a = c[j]?.getD 0 := ⟨_, rfl⟩
            obtain ⟨hv, hB⟩ : ∃ a, a = rstK c (zeros c.length) x j := ⟨_, rfl⟩
            obtain ⟨tv, hT⟩ : ∃ a, a = carK c (zeros c.length) x (j + 1) := ⟨_, rfl⟩
            obtain ⟨co, hO⟩ : ∃ a, a = carK c (zeros c.length) x j := ⟨_, rfl⟩
            rw [← hA] at cap2 rb dv hc1
            rw [← hB] at rb dv hc2
            rw [← hT] at cb1 dv hc3
            rw [← hO] at cb dv ⊢
            have HT9 := Lib.hid hT
            have gb : 0 ≤ tv * a := Int.mul_nonneg cb1.1 (by omega)
            have k1 : IntKind.i64.wrap (tv * a) = tv * a := i64_in _ (by omega)
            have k2 : IntKind.i64.wrap (tv * a + hv) = co := by rw [dv]; exact i64_in _ (by omega)
            have gk : IntKind.i64.wrap ((j : Int) + 1) = (j : Int) + 1 := i64_in _ (by omega)
            have r1 := rb.1
            have r2 := rb.2
            have hltI : (j : Int) < tn := by omega
            clear cap2 rb cb cb1 dv e1 e2 hA hB hT hO gb
            go_wp2
            go_quiet (fail)
            go_wp2
            go_roundw
            case rel => exact ⟨j + 1, by omega, by go_num, by rw [HT9.out], q + nq, by simp⟩
            case measure => simp [intOf]; omega
          · obtain rfl : j = tn := by omega
            obtain ⟨v2, hv2⟩ : ∃ W, W = v1.drewN q := ⟨_, rfl⟩
            have N2 := Lib.hid (show New v1 v2 by rw [hv2]; exact (New.refl v1).drewN q)
            rw [← hv2]
            clear hv2
            go_wp2_with fail
            refine (iDropsFor_any _ ca ha j j cc hc c _ (IC_v1.out.new N2.out) (IH.out.new N2.out)).mono ?_
            rintro e v3 ⟨rfl, n3⟩
            have N3 := Lib.hid (N2.out.trans n3)
            clear n3 N2
            have hh9 := rst_held OKC.out (zeros_ok OKC.out) x0
            have hb9 : heldB c (rstTo c (zeros c.length) x c.length) = true := heldB_iff.2 ⟨OKC.out, hh9⟩
            have hr9 : rd = wholeM c := by rw [Hrd.out]; unfold roundM; rw [if_pos (capsB_iff.2 OKC.out)]
            have hd9 : dropsM c (rstTo c (zeros c.length) x c.length) = x % rd := by unfold dropsM; rw [if_pos hb9, num_held OKC.out x0, hr9]
            have wb := wholeM_bd OKC.out
            have rd0 : 0 < rd := by omega
            have rdn : ¬ rd = 0 := by omega
            have g9 : IntKind.i64.wrap (x % rd) = x % rd := i64_in _ (by have := Int.emod_nonneg x (show rd ≠ 0 by omega); have := Int.emod_lt_of_pos x rd0; omega)
            rw [hb9, hd9]
            clear hh9 hb9 hr9 hd9 wb
            by_cases hx : 0 < x
            · as_aux_lemma =>
              have hb1 : hafB c (x - 1) = true := hafB_iff.2 ⟨OKC.out, by omega, by omega⟩
              have et1 : tafM c (x - 1) = tipTo c (zeros c.length) (x - 1) c.length := by unfold tafM; rw [if_pos hb1]
              have eh1 : hafM c (x - 1) = rstTo c (zeros c.length) (x - 1) c.length := by unfold hafM; rw [if_pos hb1]
              have hh1 := rst_held (n := x - 1) OKC.out (zeros_ok OKC.out) (by omega)
              have ha1 : addB c (rstTo c (zeros c.length) (x - 1) c.length) 1 = true := addB_iff.2 ⟨⟨OKC.out, hh1⟩, by decide, by decide⟩
              have em1 : addM c (rstTo c (zeros c.length) (x - 1) c.length) 1 = rstTo c (zeros c.length) x c.length := by
                unfold addM
                rw [if_pos ha1, zeros_more OKC.out, show x - 1 + 1 = x by omega]
              have gx : IntKind.i64.wrap (x - 1) = x - 1 := i64_in _ (by omega)
              have HB1 := Lib.hid hb1
              have ET1 := Lib.hid et1
              have EH1 := Lib.hid eh1
              have HA1 := Lib.hid ha1
              have EM1 := Lib.hid em1
              clear hb1 et1 eh1 hh1 ha1 em1
              go_wp2_with fail
              refine (iTipsAfter_any _ ca j cc c (x - 1) (IC_v1.out.new N3.out)).mono ?_
              rintro e v4 ⟨ba, bn, bc, rfl, own, n4⟩
              have IB4 := Lib.hid (show Ints v4 ba bn bc (tipTo c (zeros c.length) (x - 1) c.length) by rw [← ET1.out]; exact own.ints)
              have N4 := Lib.hid (N3.out.trans n4)
              clear own n4 N3 ET1
              rw [HB1.out]
              go_wp2_with fail
              refine (iHeldAfter_any _ ca j cc c (x - 1) (IC_v1.out.new N4.out)).mono ?_
              rintro e v5 ⟨ga, gn, gc, rfl, own, n5⟩
              have IG5 := Lib.hid (show Ints v5 ga gn gc (rstTo c (zeros c.length) (x - 1) c.length) by rw [← EH1.out]; exact own.ints)
              have IB5 := Lib.hid (IB4.out.new n5)
              have N5 := Lib.hid (N4.out.trans n5)
              clear own n5 N4 IB4 EH1
              rw [HB1.out]
              go_wp2_with fail
              refine (iAddDrops_any _ ca ga j gn cc gc c _ 1 (IC_v1.out.new N5.out) IG5.out).mono ?_
              rintro e v6 ⟨na, nn, nc, rfl, own, n6⟩
              have IN6 := Lib.hid (show Ints v6 na nn nc (rstTo c (zeros c.length) x c.length) by rw [← EM1.out]; exact own.ints)
              have IB6 := Lib.hid (IB5.out.new n6)
              have N6 := Lib.hid (N5.out.trans n6)
              clear own n6 N5 IB5 IG5 EM1
              rw [HA1.out]
              go_wp2_with fail
              refine (eSame_same _ na ha nn j nc hc _ IN6.out (IH.out.new N6.out)).mono ?_
              rintro e v7 ⟨rfl, n7⟩
              have IB7 := Lib.hid (IB6.out.new n7)
              have N7 := Lib.hid (N6.out.trans n7)
              clear n7 N6 IB6 IN6
              go_wp2_with fail
              obtain ⟨v8, hv8⟩ : ∃ W, W = v7 := ⟨_, rfl⟩
              rw [← hv8] at N7 IB7 ⊢
              clear hv8
              have tb9 : tadB c x = true := tadB_iff.2 ⟨OKC.out, by omega, by omega⟩
              obtain ⟨L, hL⟩ : ∃ L, L = lead (fun j => rstK c (zeros c.length) x j == 0) c.length := ⟨_, rfl⟩
              have ea9 : at9 = (L : Int) := by rw [Hat9.out]; unfold tadI tadM; rw [if_pos tb9, hL]
              have HLL := Lib.hid hL
              have LB := IB7.out.1
              rw [tipTo_length] at LB
              have LBB := Lib.hid LB
              have ebn : bn = j := by have := LC.out; omega
              subst ebn
              have ebnI := Lib.hid (show bn ≤ 6 from t6)
              have EA := Lib.hid ea9
              clear tb9 hL ea9 LB hlt
              go_wp2
              go_loopw [276] (fun i wr => ∃ j : Nat, j ≤ bn ∧ i = .int .i64 (j : Int) ∧ ∃ q, wr = v8.drewN q) (fun i _ => bn - (intOf i).toNat)
              case atStart => exact ⟨0, Nat.zero_le _, rfl, 0, rfl⟩
              case round =>
                obtain ⟨j, hj, rfl, q, rfl⟩ := hrel
                by_cases hlt : j < bn
                · have jl : j < c.length := by have := LC.out; omega
                  have cb1 := carK_bd OKC.out (zeros_ok OKC.out) (n := x) (by omega) (j + 1) (by omega)
                  have cb2 := carK_bd OKC.out (zeros_ok OKC.out) (n := x - 1) (by omega) (j + 1) (by omega)
                  have tl := tips_last OKC.out (n := x) (by omega) jl
                  rw [← HLL.out] at tl
                  obtain ⟨b2, o2, rfl, hc2, _⟩ := IB7.out.at hlt
                  obtain ⟨b3, o3, rfl, hc3, _⟩ := (IT.out.new N7.out).at hlt
                  rw [tipTo_get _ _ _ jl] at hc2 hc3
                  obtain ⟨tv, hT⟩ : ∃ a, a = carK c (zeros c.length) x (j + 1) := ⟨_, rfl⟩
                  obtain ⟨bv, hB⟩ : ∃ a, a = carK c (zeros c.length) (x - 1) (j + 1) := ⟨_, rfl⟩
                  rw [← hT] at cb1 tl hc3
                  rw [← hB] at cb2 tl hc2
                  have gk : IntKind.i64.wrap ((j : Int) + 1) = (j : Int) + 1 := i64_in _ (by have := ebnI.out; omega)
                  have hltI : (j : Int) < bn := by omega
                  by_cases hjl : j < L
                  · as_aux_lemma =>
                    rw [if_pos hjl] at tl
                    have k1 : IntKind.i64.wrap (tv - bv) = 1 := by rw [i64_in _ (by omega)]; omega
                    have k2 : ¬ tv = bv := by omega
                    have k3 : (j : Int) < at9 := by have := EA.out; omega
                    clear cb1 cb2 tl hT hB hjl
                    go_wp2
                    go_quiet (fail)
                    go_wp2
                    go_roundw
                    case rel => exact ⟨j + 1, by omega, by go_num, q + nq, by simp⟩
                    case measure => simp [intOf]; omega
                  · as_aux_lemma =>
                    rw [if_neg hjl] at tl
                    have k0 : tv = bv := by omega
                    have k3 : at9 ≤ (j : Int) := by have := EA.out; omega
                    have k1 : IntKind.i64.wrap (tv - tv) = 0 := by rw [Int.sub_self]; exact i64_in _ (by omega)
                    have k2 : IntKind.i64.wrap 0 = 0 := i64_in _ (by omega)
                    subst k0
                    clear cb1 cb2 tl hT hB hjl
                    go_wp2
                    go_quiet (fail)
                    go_wp2
                    go_roundw
                    case rel => exact ⟨j + 1, by omega, by go_num, q + nq, by simp⟩
                    case measure => simp [intOf]; omega
                · obtain rfl : j = bn := by omega
                  go_wp2_with fail
                  go_meet
                  exact N7.out.drewN _
            · go_wp2_with fail
              go_meet
              exact N3.out
    case rest =>
    as_aux_lemma =>
    obtain ⟨x0w, hx0w⟩ : ∃ W, W = wc := ⟨_, rfl⟩
    rw [← hx0w] at hcut ⊢
    have NN_x0w := Lib.hid (NN_v1.out.trans hcut)
    clear hx0w hcut NN_v1 IC_v1 IH_v1 IT_v1 HK Hat9 HQ Hrd HCB TQ
    go_wp2_with fail
    refine (drawFor_any _ bo m dap (H2.out.new NN_x0w.out)).mono ?_
    rintro e y1 ⟨fa, fb, f1n, f1c, f2n, f2c, fc, fh, rfl, hi1, hi2, ny⟩
    have IFC_y1 := Lib.hid hi1
    have IFH_y1 := Lib.hid hi2
    have NN_y1 := Lib.hid (NN_x0w.out.trans ny)
    clear hi1 hi2 ny NN_x0w
    go_wp2_with fail
    refine (iDropsFor_any _ fa fb f1n f2n f1c f2c fc fh IFC_y1.out IFH_y1.out).mono ?_
    rintro e u9 ⟨rfl, n_u9⟩
    have IFC_u9 := Lib.hid (IFC_y1.out.new n_u9)
    have IFH_u9 := Lib.hid (IFH_y1.out.new n_u9)
    have NN_u9 := Lib.hid (NN_y1.out.trans n_u9)
    clear n_u9 NN_y1 IFC_y1 IFH_y1
    obtain ⟨dr, hdr⟩ : ∃ T, T = dropsM fc fh := ⟨_, rfl⟩
    rw [← hdr]
    have Hdr := Lib.hid hdr
    clear hdr
    obtain ⟨D, hD⟩ : ∃ T, T = heldB fc fh := ⟨_, rfl⟩
    rw [← hD]
    have HD := Lib.hid hD
    clear hD
    go_wp2_with fail
    refine (sDropsFor_any _ fa fb f1n f2n f1c f2c fc fh IFC_u9.out IFH_u9.out).mono ?_
    rintro e u10 ⟨rfl, n_u10⟩
    have IFC_u10 := Lib.hid (IFC_u9.out.new n_u10)
    have IFH_u10 := Lib.hid (IFH_u9.out.new n_u10)
    have NN_u10 := Lib.hid (NN_u9.out.trans n_u10)
    clear n_u10 NN_u9 IFC_u9 IFH_u9
    rw [← Hdr.out, ← HD.out]
    go_wp2_with fail
    refine (drawAdd_any _ bo m dap (H2.out.new NN_u10.out)).mono ?_
    rintro e y4 ⟨ga, gb, g1n, g1c, g2n, g2c, gc, gh, mm, rfl, hi1, hi2, ny⟩
    have IGC_y4 := Lib.hid hi1
    have IGH_y4 := Lib.hid hi2
    have IFC_y4 := Lib.hid (IFC_u10.out.new ny)
    have IFH_y4 := Lib.hid (IFH_u10.out.new ny)
    have NN_y4 := Lib.hid (NN_u10.out.trans ny)
    clear hi1 hi2 ny NN_u10 IFC_u10 IFH_u10 H2
    go_wp2_with fail
    refine (iAddDrops_any _ ga gb g1n g2n g1c g2c gc gh mm IGC_y4.out IGH_y4.out).mono ?_
    rintro e u11 ⟨da, dn, dc, rfl, own, n_u11⟩
    have IFC_u11 := Lib.hid (IFC_y4.out.new n_u11)
    have IFH_u11 := Lib.hid (IFH_y4.out.new n_u11)
    have IGC_u11 := Lib.hid (IGC_y4.out.new n_u11)
    have IGH_u11 := Lib.hid (IGH_y4.out.new n_u11)
    have NN_u11 := Lib.hid (NN_y4.out.trans n_u11)
    have IA_u11 := Lib.hid own.ints
    clear own
    clear n_u11 NN_y4 IFC_y4 IFH_y4 IGC_y4 IGH_y4
    obtain ⟨AB, hAB⟩ : ∃ T, T = addB gc gh mm := ⟨_, rfl⟩
    rw [← hAB]
    have HAB := Lib.hid hAB
    clear hAB
    go_wp2_with fail
    refine (sAddDrops_any _ ga gb g1n g2n g1c g2c gc gh mm IGC_u11.out IGH_u11.out).mono ?_
    rintro e u12 ⟨ea, en, ec, rfl, own, n_u12⟩
    have IFC_u12 := Lib.hid (IFC_u11.out.new n_u12)
    have IFH_u12 := Lib.hid (IFH_u11.out.new n_u12)
    have IGC_u12 := Lib.hid (IGC_u11.out.new n_u12)
    have IGH_u12 := Lib.hid (IGH_u11.out.new n_u12)
    have IA_u12 := Lib.hid (IA_u11.out.new n_u12)
    have NN_u12 := Lib.hid (NN_u11.out.trans n_u12)
    have IAS_u12 := Lib.hid own.ints
    clear own
    clear n_u12 NN_u11 IFC_u11 IFH_u11 IGC_u11 IGH_u11 IA_u11
    rw [← HAB.out]
    go_wp2_with fail
    refine (iBackDrops_any _ ga gb g1n g2n g1c g2c gc gh mm IGC_u12.out IGH_u12.out).mono ?_
    rintro e u13 ⟨ba, bn, bc, rfl, own, n_u13⟩
    have IFC_u13 := Lib.hid (IFC_u12.out.new n_u13)
    have IFH_u13 := Lib.hid (IFH_u12.out.new n_u13)
    have IGC_u13 := Lib.hid (IGC_u12.out.new n_u13)
    have IGH_u13 := Lib.hid (IGH_u12.out.new n_u13)
    have IA_u13 := Lib.hid (IA_u12.out.new n_u13)
    have IAS_u13 := Lib.hid (IAS_u12.out.new n_u13)
    have NN_u13 := Lib.hid (NN_u12.out.trans n_u13)
    have IB_u13 := Lib.hid own.ints
    clear own
    clear n_u13 NN_u12 IFC_u12 IFH_u12 IGC_u12 IGH_u12 IA_u12 IAS_u12
    rw [← HAB.out]
    go_wp2_with fail
    refine (sBackDrops_any _ ga gb g1n g2n g1c g2c gc gh mm IGC_u13.out IGH_u13.out).mono ?_
    rintro e u14 ⟨qa, qn, qc, rfl, own, n_u14⟩
    have IFC_u14 := Lib.hid (IFC_u13.out.new n_u14)
    have IFH_u14 := Lib.hid (IFH_u13.out.new n_u14)
    have IGC_u14 := Lib.hid (IGC_u13.out.new n_u14)
    have IGH_u14 := Lib.hid (IGH_u13.out.new n_u14)
    have IA_u14 := Lib.hid (IA_u13.out.new n_u14)
    have IAS_u14 := Lib.hid (IAS_u13.out.new n_u14)
    have IB_u14 := Lib.hid (IB_u13.out.new n_u14)
    have NN_u14 := Lib.hid (NN_u13.out.trans n_u14)
    have IBS_u14 := Lib.hid own.ints
    clear own
    clear n_u14 NN_u13 IFC_u13 IFH_u13 IGC_u13 IGH_u13 IA_u13 IAS_u13 IB_u13
    rw [← HAB.out]
    go_upto_region 46 with fail
    go_cut [396] from 362 to 396 (fun v W => v = .bool false ∧ New u14 W)
    case first =>
      go_wp2_with fail
      refine (eSame_same _ da ea dn en dc ec _ IA_u14.out IAS_u14.out).mono ?_
      rintro e z1 ⟨rfl, nz⟩
      have Z1 := Lib.hid nz
      clear nz
      go_wp2_with fail
      refine (eSame_same _ ba qa bn qn bc qc _ (IB_u14.out.new Z1.out) (IBS_u14.out.new Z1.out)).mono ?_
      rintro e z2 ⟨rfl, nz⟩
      have Z2 := Lib.hid (Z1.out.trans nz)
      clear nz Z1
      go_wp2_with fail
      go_meet
      exact ⟨by first | rfl | simp, Z2.out⟩
    case rest =>
    obtain ⟨rfl, ew⟩ := hcut
    obtain ⟨t1, ht1⟩ : ∃ W, W = wc := ⟨_, rfl⟩
    rw [← ht1] at ew ⊢
    have NN_t1 := Lib.hid (NN_u14.out.trans ew)
    have IFC_t1 := Lib.hid (IFC_u14.out.new ew)
    have IFH_t1 := Lib.hid (IFH_u14.out.new ew)
    have IGC_t1 := Lib.hid (IGC_u14.out.new ew)
    have IGH_t1 := Lib.hid (IGH_u14.out.new ew)
    have IA_t1 := Lib.hid (IA_u14.out.new ew)
    have IB_t1 := Lib.hid (IB_u14.out.new ew)
    clear ht1 ew NN_u14 IFC_u14 IFH_u14 IGC_u14 IGH_u14 IA_u14 IB_u14 IAS_u14 IBS_u14
    go_upto_region 48 with fail
    by_cases hs : D = true ∧ dr ≤ 1000000
    · obtain ⟨rfl, hdr⟩ := hs
      obtain ⟨okc, okh⟩ := heldB_iff.1 HD.out.symm
      have edr : dr = numM fc fh := by rw [Hdr.out]; unfold dropsM; rw [if_pos HD.out.symm]
      have nb := numM_bd okc okh
      have hb : hafB fc dr = true := hafB_iff.2 ⟨okc, by omega, by omega⟩
      have em : hafM fc dr = fh := by unfold hafM; rw [if_pos hb, edr]; exact held_num okc okh
      have HB9 := Lib.hid hb
      have EM9 := Lib.hid em
      clear okc okh edr nb hb em
      go_wp2_with fail
      refine (iHeldAfter_any _ fa f1n f1c fc dr IFC_t1.out).mono ?_
      rintro e t2 ⟨oa, on, oc, rfl, own, nz⟩
      have IO := Lib.hid (show Ints t2 oa on oc fh by rw [← EM9.out]; exact own.ints)
      have IFH_t2 := Lib.hid (IFH_t1.out.new nz)
      have NN_t2 := Lib.hid (NN_t1.out.trans nz)
      have IGC_t2 := Lib.hid (IGC_t1.out.new nz)
      have IGH_t2 := Lib.hid (IGH_t1.out.new nz)
      have IA_t2 := Lib.hid (IA_t1.out.new nz)
      have IB_t2 := Lib.hid (IB_t1.out.new nz)
      clear own nz EM9 NN_t1 IFC_t1 IFH_t1 IGC_t1 IGH_t1 IA_t1 IB_t1
      rw [HB9.out]
      go_wp2_with fail
      refine (eSame_same _ oa fb on f2n oc f2c _ IO.out IFH_t2.out).mono ?_
      rintro e t3 ⟨rfl, nz⟩
      have NN_t3 := Lib.hid (NN_t2.out.trans nz)
      have IGC_t3 := Lib.hid (IGC_t2.out.new nz)
      have IGH_t3 := Lib.hid (IGH_t2.out.new nz)
      have IA_t3 := Lib.hid (IA_t2.out.new nz)
      have IB_t3 := Lib.hid (IB_t2.out.new nz)
      clear nz NN_t2 IFH_t2 IO IGC_t2 IGH_t2 IA_t2 IB_t2
      cases AB with
      | false =>
        go_wp2
        go_ret
        exact ⟨rfl, NN_t3.out⟩
      | true =>
        as_aux_lemma =>
        obtain ⟨⟨okc, okh⟩, m0, m1⟩ := addB_iff.1 HAB.out.symm
        have ea : addM gc gh mm = rstTo gc gh mm gc.length := by unfold addM; rw [if_pos HAB.out.symm]
        have eb : backM gc gh mm = rstTo gc gh (wholeM gc - mm % wholeM gc) gc.length := by unfold backM; rw [if_pos HAB.out.symm]
        have hb9 := held_back (n := mm) okc okh m0
        have wb := wholeM_bd okc
        have mb1 := Int.emod_nonneg mm (show wholeM gc ≠ 0 by omega)
        have mb2 := Int.emod_lt_of_pos mm (show 0 < wholeM gc by omega)
        have b1 : addB gc (addM gc gh mm) mm = true := addB_iff.2 ⟨⟨okc, by rw [ea]; exact rst_held okc okh m0⟩, m0, m1⟩
        have b2 : addB gc (backM gc gh mm) mm = true := addB_iff.2 ⟨⟨okc, by rw [eb]; exact rst_held okc okh (by omega)⟩, m0, m1⟩
        have e1 : backM gc (addM gc gh mm) mm = gh := by unfold backM; rw [if_pos b1, ea]; exact hb9.1
        have e2 : addM gc (backM gc gh mm) mm = gh := by
          have q : addM gc (backM gc gh mm) mm = rstTo gc (backM gc gh mm) mm gc.length := by unfold addM; rw [if_pos b2]
          rw [q, eb]; exact hb9.2
        have B1 := Lib.hid b1
        have B2 := Lib.hid b2
        have E1 := Lib.hid e1
        have E2 := Lib.hid e2
        clear okc okh m0 m1 ea eb hb9 wb mb1 mb2 b1 b2 e1 e2
        go_wp2_with fail
        refine (iBackDrops_any _ ga da g1n dn g1c dc gc _ mm IGC_t3.out IA_t3.out).mono ?_
        rintro e k1 ⟨ha, hn, hc, rfl, own, nz⟩
        have IX := Lib.hid (show Ints k1 ha hn hc gh by rw [← E1.out]; exact own.ints)
        have NN_k1 := Lib.hid (NN_t3.out.trans nz)
        have IGC_k1 := Lib.hid (IGC_t3.out.new nz)
        have IGH_k1 := Lib.hid (IGH_t3.out.new nz)
        have IB_k1 := Lib.hid (IB_t3.out.new nz)
        clear own nz
        rw [B1.out]
        go_wp2_with fail
        refine (iAddDrops_any _ ga ba g1n bn g1c bc gc _ mm IGC_k1.out IB_k1.out).mono ?_
        rintro e k2 ⟨ja, jn, jc, rfl, own, nz⟩
        have IY := Lib.hid (show Ints k2 ja jn jc gh by rw [← E2.out]; exact own.ints)
        have NN_k2 := Lib.hid (NN_k1.out.trans nz)
        have IGH_k2 := Lib.hid (IGH_k1.out.new nz)
        have IX_k2 := Lib.hid (IX.out.new nz)
        clear own nz
        rw [B2.out]
        go_wp2_with fail
        refine (eSame_same _ ha gb hn g2n hc g2c _ IX_k2.out IGH_k2.out).mono ?_
        rintro e k3 ⟨rfl, nz⟩
        have K3 := Lib.hid nz
        clear nz
        go_wp2_with fail
        refine (eSame_same _ ja gb jn g2n jc g2c _ (IY.out.new K3.out) (IGH_k2.out.new K3.out)).mono ?_
        rintro e k4 ⟨rfl, nz⟩
        have K4 := Lib.hid (K3.out.trans nz)
        clear nz
        go_wp2
        go_ret
        exact ⟨rfl, NN_k2.out.trans K4.out⟩
    · have hs2 : (D && decide (dr ≤ 1000000)) = false := by
        cases D with
        | false => rfl
        | true => rw [Bool.true_and]; exact decide_eq_false (fun q => hs ⟨rfl, q⟩)
      cases D with
      | false =>
        clear hs hs2
        cases AB with
        | false =>
          go_wp2
          go_ret
          exact ⟨rfl, NN_t1.out⟩
        | true =>
          as_aux_lemma =>
          obtain ⟨⟨okc, okh⟩, m0, m1⟩ := addB_iff.1 HAB.out.symm
          have ea : addM gc gh mm = rstTo gc gh mm gc.length := by unfold addM; rw [if_pos HAB.out.symm]
          have eb : backM gc gh mm = rstTo gc gh (wholeM gc - mm % wholeM gc) gc.length := by unfold backM; rw [if_pos HAB.out.symm]
          have hb9 := held_back (n := mm) okc okh m0
          have wb := wholeM_bd okc
          have mb1 := Int.emod_nonneg mm (show wholeM gc ≠ 0 by omega)
          have mb2 := Int.emod_lt_of_pos mm (show 0 < wholeM gc by omega)
          have b1 : addB gc (addM gc gh mm) mm = true := addB_iff.2 ⟨⟨okc, by rw [ea]; exact rst_held okc okh m0⟩, m0, m1⟩
          have b2 : addB gc (backM gc gh mm) mm = true := addB_iff.2 ⟨⟨okc, by rw [eb]; exact rst_held okc okh (by omega)⟩, m0, m1⟩
          have e1 : backM gc (addM gc gh mm) mm = gh := by unfold backM; rw [if_pos b1, ea]; exact hb9.1
          have e2 : addM gc (backM gc gh mm) mm = gh := by
            have q : addM gc (backM gc gh mm) mm = rstTo gc (backM gc gh mm) mm gc.length := by unfold addM; rw [if_pos b2]
            rw [q, eb]; exact hb9.2
          have B1 := Lib.hid b1
          have B2 := Lib.hid b2
          have E1 := Lib.hid e1
          have E2 := Lib.hid e2
          clear okc okh m0 m1 ea eb hb9 wb mb1 mb2 b1 b2 e1 e2
          go_wp2_with fail
          refine (iBackDrops_any _ ga da g1n dn g1c dc gc _ mm IGC_t1.out IA_t1.out).mono ?_
          rintro e k1 ⟨ha, hn, hc, rfl, own, nz⟩
          have IX := Lib.hid (show Ints k1 ha hn hc gh by rw [← E1.out]; exact own.ints)
          have NN_k1 := Lib.hid (NN_t1.out.trans nz)
          have IGC_k1 := Lib.hid (IGC_t1.out.new nz)
          have IGH_k1 := Lib.hid (IGH_t1.out.new nz)
          have IB_k1 := Lib.hid (IB_t1.out.new nz)
          clear own nz
          rw [B1.out]
          go_wp2_with fail
          refine (iAddDrops_any _ ga ba g1n bn g1c bc gc _ mm IGC_k1.out IB_k1.out).mono ?_
          rintro e k2 ⟨ja, jn, jc, rfl, own, nz⟩
          have IY := Lib.hid (show Ints k2 ja jn jc gh by rw [← E2.out]; exact own.ints)
          have NN_k2 := Lib.hid (NN_k1.out.trans nz)
          have IGH_k2 := Lib.hid (IGH_k1.out.new nz)
          have IX_k2 := Lib.hid (IX.out.new nz)
          clear own nz
          rw [B2.out]
          go_wp2_with fail
          refine (eSame_same _ ha gb hn g2n hc g2c _ IX_k2.out IGH_k2.out).mono ?_
          rintro e k3 ⟨rfl, nz⟩
          have K3 := Lib.hid nz
          clear nz
          go_wp2_with fail
          refine (eSame_same _ ja gb jn g2n jc g2c _ (IY.out.new K3.out) (IGH_k2.out.new K3.out)).mono ?_
          rintro e k4 ⟨rfl, nz⟩
          have K4 := Lib.hid (K3.out.trans nz)
          clear nz
          go_wp2
          go_ret
          exact ⟨rfl, NN_k2.out.trans K4.out⟩
      | true =>
        have hdr : 1000000 < dr := by have := of_decide_eq_false ((Bool.true_and _).symm.trans hs2); omega
        clear hs hs2
        cases AB with
        | false =>
          go_wp2
          go_ret
          exact ⟨rfl, NN_t1.out⟩
        | true =>
          as_aux_lemma =>
          obtain ⟨⟨okc, okh⟩, m0, m1⟩ := addB_iff.1 HAB.out.symm
          have ea : addM gc gh mm = rstTo gc gh mm gc.length := by unfold addM; rw [if_pos HAB.out.symm]
          have eb : backM gc gh mm = rstTo gc gh (wholeM gc - mm % wholeM gc) gc.length := by unfold backM; rw [if_pos HAB.out.symm]
          have hb9 := held_back (n := mm) okc okh m0
          have wb := wholeM_bd okc
          have mb1 := Int.emod_nonneg mm (show wholeM gc ≠ 0 by omega)
          have mb2 := Int.emod_lt_of_pos mm (show 0 < wholeM gc by omega)
          have b1 : addB gc (addM gc gh mm) mm = true := addB_iff.2 ⟨⟨okc, by rw [ea]; exact rst_held okc okh m0⟩, m0, m1⟩
          have b2 : addB gc (backM gc gh mm) mm = true := addB_iff.2 ⟨⟨okc, by rw [eb]; exact rst_held okc okh (by omega)⟩, m0, m1⟩
          have e1 : backM gc (addM gc gh mm) mm = gh := by unfold backM; rw [if_pos b1, ea]; exact hb9.1
          have e2 : addM gc (backM gc gh mm) mm = gh := by
            have q : addM gc (backM gc gh mm) mm = rstTo gc (backM gc gh mm) mm gc.length := by unfold addM; rw [if_pos b2]
            rw [q, eb]; exact hb9.2
          have B1 := Lib.hid b1
          have B2 := Lib.hid b2
          have E1 := Lib.hid e1
          have E2 := Lib.hid e2
          clear okc okh m0 m1 ea eb hb9 wb mb1 mb2 b1 b2 e1 e2
          go_wp2_with fail
          refine (iBackDrops_any _ ga da g1n dn g1c dc gc _ mm IGC_t1.out IA_t1.out).mono ?_
          rintro e k1 ⟨ha, hn, hc, rfl, own, nz⟩
          have IX := Lib.hid (show Ints k1 ha hn hc gh by rw [← E1.out]; exact own.ints)
          have NN_k1 := Lib.hid (NN_t1.out.trans nz)
          have IGC_k1 := Lib.hid (IGC_t1.out.new nz)
          have IGH_k1 := Lib.hid (IGH_t1.out.new nz)
          have IB_k1 := Lib.hid (IB_t1.out.new nz)
          clear own nz
          rw [B1.out]
          go_wp2_with fail
          refine (iAddDrops_any _ ga ba g1n bn g1c bc gc _ mm IGC_k1.out IB_k1.out).mono ?_
          rintro e k2 ⟨ja, jn, jc, rfl, own, nz⟩
          have IY := Lib.hid (show Ints k2 ja jn jc gh by rw [← E2.out]; exact own.ints)
          have NN_k2 := Lib.hid (NN_k1.out.trans nz)
          have IGH_k2 := Lib.hid (IGH_k1.out.new nz)
          have IX_k2 := Lib.hid (IX.out.new nz)
          clear own nz
          rw [B2.out]
          go_wp2_with fail
          refine (eSame_same _ ha gb hn g2n hc g2c _ IX_k2.out IGH_k2.out).mono ?_
          rintro e k3 ⟨rfl, nz⟩
          have K3 := Lib.hid nz
          clear nz
          go_wp2_with fail
          refine (eSame_same _ ja gb jn g2n jc g2c _ (IY.out.new K3.out) (IGH_k2.out.new K3.out)).mono ?_
          rintro e k4 ⟨rfl, nz⟩
          have K4 := Lib.hid (K3.out.trans nz)
          clear nz
          go_wp2
          go_ret
          exact ⟨rfl, NN_k2.out.trans K4.out⟩
end Go.Proofs.Ytbgbglalibjncaa
