/- The law of rain measured. -/
import Derived.Test.YtaonebglbcgghaaEs
import Derived.Deep.CutRange
namespace Go.Proofs.Ytaonebglbcgghaa
open Go.RowKit Go.IntWalk

theorem big_any (w : World) (ao bo : Option Addr) (n m cap dap : Nat) (hn : n ≤ 9223372036854775807) (_hm : m ≤ 9223372036854775807) :
    Calls Try.prog 4 #[.slice ao n cap, .slice bo m dap] w fun e w' => ∃ b : Bool, e = .returned (.bool b) ∧ w = w' := by
  by_cases h1 : 1048576 < (n : Int)
  · go_enter Try.func4, Try.ntmps4
    go_wp2
    go_ret
    first | exact ⟨_, rfl, rfl⟩ | exact ⟨.inl rfl, rfl⟩ | exact ⟨.inr rfl, rfl⟩
  · have g : IntKind.i64.wrap (1048576 - (n : Int)) = 1048576 - (n : Int) := i64_in _ (by omega)
    by_cases h2 : 1048576 - (n : Int) < m
    · go_enter Try.func4, Try.ntmps4
      go_wp2
      go_ret
      first | exact ⟨_, rfl, rfl⟩ | exact ⟨.inl rfl, rfl⟩ | exact ⟨.inr rfl, rfl⟩
    · go_enter Try.func4, Try.ntmps4
      go_wp2
      go_ret
      first | exact ⟨_, rfl, rfl⟩ | exact ⟨.inl rfl, rfl⟩ | exact ⟨.inr rfl, rfl⟩

theorem ints_take {w : World} {ao : Option Addr} {n cap : Nat} {l : List Int} (h : Ints w ao n cap l) {k : Nat} (hk : k ≤ n) : Ints w ao k cap (l.take k) := by
  obtain ⟨h1, h2, h3, h4, h5⟩ := h
  refine ⟨by rw [List.length_take]; omega, by omega, by omega, fun j hj => ?_, h5⟩
  obtain ⟨b, o, e, c⟩ := h4 j (by omega)
  exact ⟨b, o, e, by rw [List.getElem?_take_of_lt hj]; exact c⟩

set_option maxRecDepth 100000 in
set_option maxHeartbeats 16000000 in
theorem law_RainMeasured (w : World) (ao bo : Option Addr) (n m cap dap : Nat) (h1 : Byts w ao n cap) (h2 : Byts w bo m dap) :
    Calls Try.prog 3 #[.slice ao n cap, .slice bo m dap] w fun e w' => e = .returned (.bool true) ∧ New w w' := by
  have H1 := Lib.hid h1
  have H2 := Lib.hid h2
  have hn := h1.2.1
  have hm := h2.2.1
  clear h1 h2
  go_enter Try.func3, Try.ntmps3
  go_wp2_with fail
  refine (big_any _ ao bo n m cap dap hn hm).mono ?_
  rintro e w1 ⟨b, rfl, rfl⟩
  clear hn hm
  cases b with
  | true =>
    go_wp2
    go_ret
    exact ⟨rfl, New.refl _⟩
  | false =>
    go_wp2_with fail
    refine (drawTips_any _ ao n cap H1.out).mono ?_
    rintro e w1 ⟨r, ra, rn, rc, xs, rfl, hi, hw⟩
    have IR_w1 := Lib.hid hi
    have NN_w1 := Lib.hid hw
    clear hi hw H1
    go_wp2_with fail
    refine (iTipsOfRain_any _ r ra rn rc xs IR_w1.out).mono ?_
    rintro e u1 ⟨ta, tn, tc, rfl, own, n_u1⟩
    have IR_u1 := Lib.hid (IR_w1.out.new n_u1)
    have NN_u1 := Lib.hid (NN_w1.out.trans n_u1)
    have IT_u1 := Lib.hid own.ints
    clear own
    clear n_u1 NN_w1 IR_w1
    obtain ⟨T, hT⟩ : ∃ T, T = rainB r xs := ⟨_, rfl⟩
    rw [← hT]
    have HT := Lib.hid hT
    clear hT
    go_wp2_with fail
    refine (sTipsOfRain_any _ r ra rn rc xs IR_u1.out).mono ?_
    rintro e u2 ⟨sa, sn, sc, rfl, own, n_u2⟩
    have IR_u2 := Lib.hid (IR_u1.out.new n_u2)
    have IT_u2 := Lib.hid (IT_u1.out.new n_u2)
    have NN_u2 := Lib.hid (NN_u1.out.trans n_u2)
    have IS_u2 := Lib.hid own.ints
    clear own
    clear n_u2 NN_u1 IR_u1 IT_u1
    rw [← HT.out]
    go_wp2_with fail
    refine (iRestOfRain_any _ r ra rn rc xs IR_u2.out).mono ?_
    rintro e u3 ⟨rfl, n_u3⟩
    have IR_u3 := Lib.hid (IR_u2.out.new n_u3)
    have IT_u3 := Lib.hid (IT_u2.out.new n_u3)
    have IS_u3 := Lib.hid (IS_u2.out.new n_u3)
    have NN_u3 := Lib.hid (NN_u2.out.trans n_u3)
    clear n_u3 NN_u2 IR_u2 IT_u2 IS_u2
    obtain ⟨rest, hrest⟩ : ∃ T, T = restM r xs := ⟨_, rfl⟩
    rw [← hrest, ← HT.out]
    have HREST := Lib.hid hrest
    clear hrest
    go_wp2_with fail
    refine (sRestOfRain_any _ r ra rn rc xs IR_u3.out).mono ?_
    rintro e u4 ⟨rfl, n_u4⟩
    have IR_u4 := Lib.hid (IR_u3.out.new n_u4)
    have IT_u4 := Lib.hid (IT_u3.out.new n_u4)
    have IS_u4 := Lib.hid (IS_u3.out.new n_u4)
    have NN_u4 := Lib.hid (NN_u3.out.trans n_u4)
    clear n_u4 NN_u3 IR_u3 IT_u3 IS_u3
    rw [← HREST.out, ← HT.out]
    go_wp2_with fail
    refine (iFirstTip_any _ r ra rn rc xs IR_u4.out).mono ?_
    rintro e u5 ⟨rfl, n_u5⟩
    have IR_u5 := Lib.hid (IR_u4.out.new n_u5)
    have IT_u5 := Lib.hid (IT_u4.out.new n_u5)
    have IS_u5 := Lib.hid (IS_u4.out.new n_u5)
    have NN_u5 := Lib.hid (NN_u4.out.trans n_u5)
    clear n_u5 NN_u4 IR_u4 IT_u4 IS_u4
    obtain ⟨F, hF⟩ : ∃ T, T = firB r xs := ⟨_, rfl⟩
    obtain ⟨fi, hfi⟩ : ∃ T, T = firI r xs := ⟨_, rfl⟩
    rw [← hF, ← hfi]
    have HF := Lib.hid hF
    have HFI := Lib.hid hfi
    clear hF hfi
    go_wp2_with fail
    refine (sFirstTip_any _ r ra rn rc xs IR_u5.out).mono ?_
    rintro e u6 ⟨rfl, n_u6⟩
    have IR_u6 := Lib.hid (IR_u5.out.new n_u6)
    have IT_u6 := Lib.hid (IT_u5.out.new n_u6)
    have IS_u6 := Lib.hid (IS_u5.out.new n_u6)
    have NN_u6 := Lib.hid (NN_u5.out.trans n_u6)
    clear n_u6 NN_u5 IR_u5 IT_u5 IS_u5
    rw [← HF.out, ← HFI.out]
    go_upto_region 10 with fail
    go_cut [139] from 96 to 139 (fun v W => v = .bool false ∧ New u6 W)
    case first =>
      cases T with
      | false =>
        have fF : F = false := by rw [HF.out]; exact (firB_false HT.out.symm).1
        subst fF
        go_wp2_with fail
        refine (eSame_same _ ta sa tn sn tc sc _ IT_u6.out IS_u6.out).mono ?_
        rintro e z1 ⟨rfl, nz⟩
        have NZ := Lib.hid nz
        clear nz
        go_wp2_with fail
        go_meet
        exact ⟨rfl, NZ.out⟩
      | true =>
        have rt := rain_tips HT.out.symm
        have ok := rainB_iff.1 rt.2.1
        have fF := (fir_any HT.out.symm).1
        rw [← HF.out] at fF
        have ln : tn = (tipsM r xs).length := IT_u6.out.1
        have FF := Lib.hid fF
        have SUM := Lib.hid (fun W (h : New u6 W) => eSum_any W ta tn tc (tipsM r xs) (IT_u6.out.new h) (by rw [ln]; exact Nat.le_trans ok.2.1 (by decide)) (fun j hj => ok.2.2 j (by rw [← ln]; exact hj)))
        obtain ⟨S, hS⟩ : ∃ S, S = sumM (tipsM r xs) := ⟨_, rfl⟩
        rw [← hS] at FF SUM
        clear rt ok fF ln hS
        by_cases hs : 0 < S
        · have fF : F = true := by rw [FF.out]; exact decide_eq_true hs
          subst fF
          go_wp2_with fail
          refine (eSame_same _ ta sa tn sn tc sc _ IT_u6.out IS_u6.out).mono ?_
          rintro e z1 ⟨rfl, nz⟩
          have NZ := Lib.hid nz
          clear nz
          go_wp2_with fail
          refine (SUM.out _ NZ.out).mono ?_
          rintro e z2 ⟨rfl, rfl⟩
          go_wp2_with fail
          go_meet
          exact ⟨rfl, NZ.out⟩
        · have fF : F = false := by rw [FF.out]; exact decide_eq_false hs
          subst fF
          go_wp2_with fail
          refine (eSame_same _ ta sa tn sn tc sc _ IT_u6.out IS_u6.out).mono ?_
          rintro e z1 ⟨rfl, nz⟩
          have NZ := Lib.hid nz
          clear nz
          go_wp2_with fail
          refine (SUM.out _ NZ.out).mono ?_
          rintro e z2 ⟨rfl, rfl⟩
          go_wp2_with fail
          go_meet
          exact ⟨by first | rfl | (rw [decide_eq_false (by omega)]), NZ.out⟩
    case rest =>
    obtain ⟨rfl, ew⟩ := hcut
    obtain ⟨v1, hv1⟩ : ∃ W, W = wc := ⟨_, rfl⟩
    rw [← hv1] at ew ⊢
    have NN_v1 := Lib.hid (NN_u6.out.trans ew)
    have IR_v1 := Lib.hid (IR_u6.out.new ew)
    have IT_v1 := Lib.hid (IT_u6.out.new ew)
    clear hv1 ew NN_u6 IR_u6 IT_u6 IS_u6
    go_upto_if 140 with fail
    go_cut [] from 140 to 251 (fun W => New v1 W)
    case first =>
      cases T with
      | false =>
        go_wp2_with fail
        go_meet
        exact New.refl _
      | true =>
        have RT := Lib.hid (rain_tips HT.out.symm)
        have TW := Lib.hid (two_any HT.out.symm)
        have FA := Lib.hid (fir_any HT.out.symm)
        have OKR := Lib.hid (rainB_iff.1 HT.out.symm)
        have OKT := Lib.hid (rainB_iff.1 RT.out.2.1)
        have ln := IT_v1.out.1
        have lr := IR_v1.out.1
        have SUMT := Lib.hid (fun W (h : New v1 W) => eSum_any W ta tn tc (tipsM r xs) (IT_v1.out.new h) (by rw [ln]; exact Nat.le_trans OKT.out.2.1 (by decide)) (fun j hj => OKT.out.2.2 j (by rw [← ln]; exact hj)))
        have SUMR := Lib.hid (fun W (h : New v1 W) => eSum_any W ra rn rc xs (IR_v1.out.new h) (by rw [lr]; exact Nat.le_trans OKR.out.2.1 (by decide)) (fun j hj => OKR.out.2.2 j (by rw [← lr]; exact hj)))
        have el : tn = rn := by rw [ln, lr]; exact RT.out.1
        have rb := OKR.out.1
        have sb := sumM_bd OKR.out
        have tb := sumM_bd OKT.out
        have s1 := RT.out.2.2.1
        have s2 := RT.out.2.2.2.1
        have lw := low_bd rb.1 rb.2 tb.1 tb.2
        have lo := TW.out.2.1
        have hi := TW.out.2.2.1
        have hl := TW.out.2.2.2.1
        have eLow : lowM r (tipsM r xs) = r * sumM (tipsM r xs) := by unfold lowM; rw [if_pos RT.out.2.1]
        have R7 := Lib.hid RT.out.2.2.2.2
        have RR := Lib.hid RT.out.2.1
        rw [← HREST.out] at s1 s2
        obtain ⟨S, hS⟩ : ∃ S, S = sumM (tipsM r xs) := ⟨_, rfl⟩
        obtain ⟨X, hX⟩ : ∃ S, S = sumM xs := ⟨_, rfl⟩
        obtain ⟨low, hlow⟩ : ∃ S, S = lowM r (tipsM r xs) := ⟨_, rfl⟩
        obtain ⟨high, hhigh⟩ : ∃ S, S = highM r (tipsM r xs) := ⟨_, rfl⟩
        rw [← hS] at SUMT s1 tb lw eLow
        rw [← hX] at SUMR s1 sb lo hi
        rw [← hlow] at lo hl eLow
        rw [← hhigh] at hi hl
        rw [Int.mul_comm r S] at lw eLow
        have k1 : IntKind.i64.wrap (S * r) = S * r := i64_in _ (by omega)
        have k2 : IntKind.i64.wrap (S * r + rest) = X := by rw [s1]; exact i64_in _ (by omega)
        have k3 : ¬ rest < 0 := by omega
        have k4 : rest < r := by omega
        have k5 : ¬ X < low := by omega
        have k6 : ¬ high < X := by omega
        have k7 : IntKind.i64.wrap (high - low) = r - 1 := by rw [hl]; exact i64_in _ (by omega)
        have k8 : IntKind.i64.wrap (r - 1) = r - 1 := i64_in _ (by omega)
        have HLOW := Lib.hid hlow
        have HHIGH := Lib.hid hhigh
        subst el
        have HX := Lib.hid hX
        clear s1 s2 sb tb lw lo hi hl eLow hS hX hlow hhigh ln lr rb
        go_wp2_with fail
        refine (iRangeOfTips_any _ r ta tn tc _ IT_v1.out).mono ?_
        rintro e z1 ⟨rfl, nz⟩
        have Z1 := Lib.hid nz
        clear nz
        rw [RR.out, ← HLOW.out, ← HHIGH.out]
        go_wp2_with fail
        refine (SUMR.out _ Z1.out).mono ?_
        rintro e z2 ⟨rfl, rfl⟩
        go_wp2_with fail
        refine (SUMT.out _ Z1.out).mono ?_
        rintro e z2 ⟨rfl, rfl⟩
        go_upto_if 195 with fail
        go_upto_region 17 with fail
        clear k1 k2 k3 k4 k7 k8
        go_cut [212] from 196 to 212 (fun v W => v = .bool false ∧ New z1 W)
        case first =>
          cases F with
          | false =>
            go_wp2_with fail
            go_meet
            exact ⟨rfl, New.refl _⟩
          | true =>
            obtain ⟨f1, f2, f3, f4⟩ := FA.out.2 HF.out.symm
            have lt := IT_v1.out.1
            have lx := RT.out.1
            have ltc := IT_v1.out.2.1
            obtain ⟨d, hd⟩ : ∃ d, d = dryN r xs := ⟨_, rfl⟩
            rw [← hd] at f1 f2 f3 f4
            clear hd
            have dt : d < tn := by omega
            have d100 : d ≤ 100 := by have := OKR.out.2.1; omega
            have q1 : IntKind.i64.wrap (fi - 1) = (d : Int) := by rw [HFI.out, f1, i64_in _ (by omega)]; omega
            have SUMD := Lib.hid (fun W (h : New v1 W) => eSum_any W ta d tc ((tipsM r xs).take d) (ints_take (IT_v1.out.new h) (by omega)) (by omega) (fun j hj => by rw [List.getElem?_take_of_lt hj]; exact OKT.out.2.2 j (by omega)))
            have zz : sumM ((tipsM r xs).take d) = 0 := by
              unfold sumM
              rw [List.length_take, Nat.min_eq_left (by omega), sumK_take _ (Nat.le_refl _) (by omega)]; exact f4
            rw [zz] at SUMD
            obtain ⟨b, o, rfl, hc, hb⟩ := (IT_v1.out.new Z1.out).at (j := d) dt
            obtain ⟨y, hy⟩ : ∃ y, y = (tipsM r xs)[d]?.getD 0 := ⟨_, rfl⟩
            rw [← hy] at hc f3
            have dtc : d ≤ tc := by omega
            have dt' : (d : Int) < tn := by omega
            clear f1 f2 f4 lt lx ltc zz hy k5 k6
            go_wp2_with fail
            refine (SUMD.out _ Z1.out).mono ?_
            rintro e z2 ⟨rfl, rfl⟩
            go_wp2_with fail
            go_meet
            exact ⟨by first | rfl | simp [f3], New.refl _⟩
        case rest =>
        obtain ⟨rfl, ew⟩ := hcut
        obtain ⟨v2, hv2⟩ : ∃ W, W = wc := ⟨_, rfl⟩
        rw [← hv2] at ew ⊢
        have Z2 := Lib.hid (Z1.out.trans ew)
        clear hv2 ew Z1
        go_wp2_with fail
        refine (iTipsOfRain_any _ 7 ra tn rc xs (IR_v1.out.new Z2.out)).mono ?_
        rintro e z3 ⟨da, dn, dc, rfl, own, nz⟩
        have ID := Lib.hid own.ints
        have Z3 := Lib.hid (Z2.out.trans nz)
        clear own nz Z2
        rw [R7.out]
        go_wp2_with fail
        refine (iRangeOfTwo_any _ r 7 ta da tn dn tc dc _ _ (IT_v1.out.new Z3.out) ID.out).mono ?_
        rintro e z4 ⟨rfl, nz⟩
        have Z4 := Lib.hid (Z3.out.trans nz)
        clear nz Z3 ID
        rw [TW.out.1]
        have t1 := TW.out.2.2.2.2
        rw [← HLOW.out, ← HHIGH.out] at t1
        obtain ⟨al, hal⟩ : ∃ S, S = twoLowM r 7 (tipsM r xs) (tipsM 7 xs) := ⟨_, rfl⟩
        obtain ⟨bh, hbh⟩ : ∃ S, S = twoHighM r 7 (tipsM r xs) (tipsM 7 xs) := ⟨_, rfl⟩
        rw [← hal, ← hbh] at t1 ⊢
        rw [← HX.out] at t1
        clear hal hbh
        have k9 : ¬ X < al := by omega
        have k10 : ¬ bh < X := by omega
        have k11 : ¬ al < low := by omega
        have k12 : ¬ high < bh := by omega
        clear t1
        go_wp2_with fail
        go_meet
        exact Z4.out
    case rest =>
    obtain ⟨v3, hv3⟩ : ∃ W, W = wc := ⟨_, rfl⟩
    rw [← hv3] at hcut ⊢
    have NN_v3 := Lib.hid (NN_v1.out.trans hcut)
    clear hv3 hcut NN_v1 IR_v1 IT_v1 HT HREST HF HFI
    go_wp2_with fail
    refine (drawMade_any _ bo m dap (H2.out.new NN_v3.out)).mono ?_
    rintro e y1 ⟨k, la, ln, lc, ls, rfl, hi, ny⟩
    have IL_y1 := Lib.hid hi
    have NN_y1 := Lib.hid (NN_v3.out.trans ny)
    clear hi ny NN_v3
    go_wp2_with fail
    refine (iRainOfTips_any _ k la ln lc ls IL_y1.out).mono ?_
    rintro e y2 ⟨ma, mn, mc, rfl, own, ny⟩
    have IM_y2 := Lib.hid own.ints
    have IL_y2 := Lib.hid (IL_y1.out.new ny)
    have NN_y2 := Lib.hid (NN_y1.out.trans ny)
    clear own ny NN_y1 IL_y1
    obtain ⟨V, hV⟩ : ∃ T, T = madeB k ls := ⟨_, rfl⟩
    rw [← hV]
    have HV := Lib.hid hV
    clear hV
    go_wp2_with fail
    refine (sRainOfTips_any _ k la ln lc ls IL_y2.out).mono ?_
    rintro e y3 ⟨na, nn, nc, rfl, own, ny⟩
    have IN_y3 := Lib.hid own.ints
    have IL_y3 := Lib.hid (IL_y2.out.new ny)
    have IM_y3 := Lib.hid (IM_y2.out.new ny)
    have NN_y3 := Lib.hid (NN_y2.out.trans ny)
    clear own ny NN_y2 IL_y2 IM_y2
    rw [← HV.out]
    go_wp2_with fail
    refine (iRangeOfTips_any _ k la ln lc ls IL_y3.out).mono ?_
    rintro e y4 ⟨rfl, ny⟩
    have IL_y4 := Lib.hid (IL_y3.out.new ny)
    have IM_y4 := Lib.hid (IM_y3.out.new ny)
    have IN_y4 := Lib.hid (IN_y3.out.new ny)
    have NN_y4 := Lib.hid (NN_y3.out.trans ny)
    clear ny NN_y3 IL_y3 IM_y3 IN_y3
    obtain ⟨R, hR⟩ : ∃ T, T = rainB k ls := ⟨_, rfl⟩
    obtain ⟨lw, hlw⟩ : ∃ T, T = lowM k ls := ⟨_, rfl⟩
    obtain ⟨hg, hhg⟩ : ∃ T, T = highM k ls := ⟨_, rfl⟩
    rw [← hR, ← hlw, ← hhg]
    have HR := Lib.hid hR
    have HLW := Lib.hid hlw
    have HHG := Lib.hid hhg
    clear hR hlw hhg
    go_wp2_with fail
    refine (sRangeOfTips_any _ k la ln lc ls IL_y4.out).mono ?_
    rintro e y5 ⟨rfl, ny⟩
    have IL_y5 := Lib.hid (IL_y4.out.new ny)
    have IM_y5 := Lib.hid (IM_y4.out.new ny)
    have IN_y5 := Lib.hid (IN_y4.out.new ny)
    have NN_y5 := Lib.hid (NN_y4.out.trans ny)
    clear ny NN_y4 IL_y4 IM_y4 IN_y4
    rw [← HR.out, ← HLW.out, ← HHG.out]
    go_wp2_with fail
    refine (drawTwo_any _ bo m dap (H2.out.new NN_y5.out)).mono ?_
    rintro e y6 ⟨x, y, pa, qa, pn, pc, qn, qc, ps, qs, rfl, hp, hq, ny⟩
    have IP_y6 := Lib.hid hp
    have IQ_y6 := Lib.hid hq
    have IL_y6 := Lib.hid (IL_y5.out.new ny)
    have IM_y6 := Lib.hid (IM_y5.out.new ny)
    have IN_y6 := Lib.hid (IN_y5.out.new ny)
    have NN_y6 := Lib.hid (NN_y5.out.trans ny)
    clear ny hp hq NN_y5 IL_y5 IM_y5 IN_y5 H2
    go_wp2_with fail
    refine (iRangeOfTwo_any _ x y pa qa pn qn pc qc ps qs IP_y6.out IQ_y6.out).mono ?_
    rintro e y7 ⟨rfl, ny⟩
    have IP_y7 := Lib.hid (IP_y6.out.new ny)
    have IQ_y7 := Lib.hid (IQ_y6.out.new ny)
    have IL_y7 := Lib.hid (IL_y6.out.new ny)
    have IM_y7 := Lib.hid (IM_y6.out.new ny)
    have IN_y7 := Lib.hid (IN_y6.out.new ny)
    have NN_y7 := Lib.hid (NN_y6.out.trans ny)
    clear ny NN_y6 IL_y6 IM_y6 IN_y6 IP_y6 IQ_y6
    obtain ⟨Q, hQ⟩ : ∃ T, T = twoB x y ps qs := ⟨_, rfl⟩
    obtain ⟨cc, hcc⟩ : ∃ T, T = twoLowM x y ps qs := ⟨_, rfl⟩
    obtain ⟨dd, hdd⟩ : ∃ T, T = twoHighM x y ps qs := ⟨_, rfl⟩
    rw [← hQ, ← hcc, ← hdd]
    have HQ := Lib.hid hQ
    have HCC := Lib.hid hcc
    have HDD := Lib.hid hdd
    clear hQ hcc hdd
    go_wp2_with fail
    refine (sRangeOfTwo_any _ x y pa qa pn qn pc qc ps qs IP_y7.out IQ_y7.out).mono ?_
    rintro e y8 ⟨rfl, ny⟩
    have IL_y8 := Lib.hid (IL_y7.out.new ny)
    have IM_y8 := Lib.hid (IM_y7.out.new ny)
    have IN_y8 := Lib.hid (IN_y7.out.new ny)
    have NN_y8 := Lib.hid (NN_y7.out.trans ny)
    clear ny NN_y7 IL_y7 IM_y7 IN_y7 IP_y7 IQ_y7
    rw [← HQ.out, ← HCC.out, ← HDD.out]
    go_upto_region 31 with fail
    go_cut [361] from 308 to 361 (fun v W => v = .bool false ∧ New y8 W)
    case first =>
      have hVR : V = true → R = true := fun h => by rw [HR.out]; exact (made_any (by rw [← HV.out]; exact h)).1
      have hQ : Q = true → cc ≤ dd := fun h => by rw [HCC.out, HDD.out]; exact Int.not_lt.1 (two_le (by rw [← HQ.out]; exact h))
      cases V with
      | false =>
        clear hVR
        cases Q with
        | false =>
          clear hQ
          go_wp2_with fail
          refine (eSame_same _ ma na mn nn mc nc _ IM_y8.out IN_y8.out).mono ?_
          rintro e z1 ⟨rfl, nz⟩
          have NZ := Lib.hid nz
          clear nz
          go_wp2_with fail
          go_meet
          exact ⟨rfl, NZ.out⟩
        | true =>
          have hcd := hQ rfl
          clear hQ
          go_wp2_with fail
          refine (eSame_same _ ma na mn nn mc nc _ IM_y8.out IN_y8.out).mono ?_
          rintro e z1 ⟨rfl, nz⟩
          have NZ := Lib.hid nz
          clear nz
          go_wp2_with fail
          go_meet
          exact ⟨by first | rfl | (simp; omega), NZ.out⟩
      | true =>
        have hr := hVR rfl
        subst hr
        clear hVR
        cases Q with
        | false =>
          clear hQ
          go_wp2_with fail
          refine (eSame_same _ ma na mn nn mc nc _ IM_y8.out IN_y8.out).mono ?_
          rintro e z1 ⟨rfl, nz⟩
          have NZ := Lib.hid nz
          clear nz
          go_wp2_with fail
          go_meet
          exact ⟨rfl, NZ.out⟩
        | true =>
          have hcd := hQ rfl
          clear hQ
          go_wp2_with fail
          refine (eSame_same _ ma na mn nn mc nc _ IM_y8.out IN_y8.out).mono ?_
          rintro e z1 ⟨rfl, nz⟩
          have NZ := Lib.hid nz
          clear nz
          go_wp2_with fail
          go_meet
          exact ⟨by first | rfl | (simp; omega), NZ.out⟩
    case rest =>
    obtain ⟨rfl, ew⟩ := hcut
    obtain ⟨v4, hv4⟩ : ∃ W, W = wc := ⟨_, rfl⟩
    rw [← hv4] at ew ⊢
    have NN_v4 := Lib.hid (NN_y8.out.trans ew)
    have IL_v4 := Lib.hid (IL_y8.out.new ew)
    have IM_v4 := Lib.hid (IM_y8.out.new ew)
    clear hv4 ew NN_y8 IL_y8 IM_y8 IN_y8 HQ HCC HDD HHG
    cases V with
    | false =>
      go_wp2
      go_ret
      exact ⟨rfl, NN_v4.out⟩
    | true =>
      have MA := Lib.hid (made_any HV.out.symm)
      have OKM := Lib.hid (rainB_iff.1 MA.out.2.1)
      have lnm := IM_v4.out.1
      have SUMM := Lib.hid (fun W (h : New v4 W) => eSum_any W ma mn mc (madeM k ls) (IM_v4.out.new h) (by rw [lnm]; exact Nat.le_trans OKM.out.2.1 (by decide)) (fun j hj => OKM.out.2.2 j (by rw [← lnm]; exact hj)))
      rw [MA.out.2.2.2, ← HLW.out] at SUMM
      clear lnm
      go_wp2_with fail
      refine (iTipsOfRain_any _ k ma mn mc _ IM_v4.out).mono ?_
      rintro e z1 ⟨oa, on, oc, rfl, own, nz⟩
      have IO := Lib.hid own.ints
      rw [MA.out.2.2.1] at IO
      have Z1 := Lib.hid nz
      clear own nz
      rw [MA.out.2.1]
      go_wp2_with fail
      refine (eSame_same _ oa la on ln oc lc ls IO.out (IL_v4.out.new Z1.out)).mono ?_
      rintro e z2 ⟨rfl, nz⟩
      have Z2 := Lib.hid (Z1.out.trans nz)
      clear nz
      go_wp2_with fail
      refine (SUMM.out _ Z2.out).mono ?_
      rintro e z3 ⟨rfl, rfl⟩
      go_wp2
      go_ret
      exact ⟨rfl, NN_v4.out.trans Z2.out⟩
end Go.Proofs.Ytaonebglbcgghaa
