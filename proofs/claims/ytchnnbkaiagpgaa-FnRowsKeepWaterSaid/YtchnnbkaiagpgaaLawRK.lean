/- The law of rows that keep water. -/
import Derived.Test.YtchnnbkaiagpgaaRkm
import Derived.Test.YtchnnbkaiagpgaaDr5
import Derived.Test.YtchnnbkaiagpgaaHsb
import Derived.Deep.CutRange
namespace Go.Proofs.Ytchnnbkaiagpgaa
open Go.RowKit Go.IntWalk

theorem big_any (w : World) (ao bo : Option Addr) (n m cap dap : Nat) (hn : n ≤ 9223372036854775807) (_hm : m ≤ 9223372036854775807) :
    Calls Try.prog 5 #[.slice ao n cap, .slice bo m dap] w fun e w' => ∃ b : Bool, e = .returned (.bool b) ∧ w = w' := by
  by_cases h1 : 1048576 < (n : Int)
  · go_enter Try.func5, Try.ntmps5
    go_wp2
    go_ret
    first | exact ⟨_, rfl, rfl⟩ | exact ⟨.inl rfl, rfl⟩ | exact ⟨.inr rfl, rfl⟩
  · have g : IntKind.i64.wrap (1048576 - (n : Int)) = 1048576 - (n : Int) := i64_in _ (by omega)
    by_cases h2 : 1048576 - (n : Int) < m
    · go_enter Try.func5, Try.ntmps5
      go_wp2
      go_ret
      first | exact ⟨_, rfl, rfl⟩ | exact ⟨.inl rfl, rfl⟩ | exact ⟨.inr rfl, rfl⟩
    · go_enter Try.func5, Try.ntmps5
      go_wp2
      go_ret
      first | exact ⟨_, rfl, rfl⟩ | exact ⟨.inl rfl, rfl⟩ | exact ⟨.inr rfl, rfl⟩

theorem give_in {l : List (Int × Int × Int)} {xs : List Int} (h : askB l xs = true) : ∀ j, j < (runM l xs).length → 0 ≤ (runM l xs)[j]?.getD 0 ∧ (runM l xs)[j]?.getD 0 ≤ 1000000 := by
  obtain ⟨hl, hx⟩ := askB_iff.1 h
  have e : runM l xs = givesTo l xs xs.length := by unfold runM; rw [if_pos h]
  rw [e]
  intro j hj
  rw [givesTo_length] at hj
  rw [givesTo_get _ _ _ _ hj]
  have := giveK_bd hl hx j hj
  omega
theorem maxK_bd (G : List Int) (h : ∀ j, j < G.length → 0 ≤ G[j]?.getD 0 ∧ G[j]?.getD 0 ≤ 1000000) (k : Nat) (hk : k ≤ G.length) : 0 ≤ maxK G k ∧ maxK G k ≤ 1000000 := by
  induction k with
  | zero => exact ⟨by simp [maxK], by simp [maxK]⟩
  | succ k ih =>
    have q := ih (by omega)
    have q1 := h k (by omega)
    unfold maxK
    omega

set_option maxRecDepth 100000 in
set_option maxHeartbeats 16000000 in
theorem law_RowsKeepWater (w : World) (ao bo : Option Addr) (n m cap dap : Nat) (h1 : Byts w ao n cap) (h2 : Byts w bo m dap) :
    Calls Try.prog 3 #[.slice ao n cap, .slice bo m dap] w fun e w' => e = .returned (.bool true) ∧ New w w' := by
  have H1 := Lib.hid h1
  have H2 := Lib.hid h2
  have hn := h1.2.1
  have hm := h2.2.1
  clear h1 h2
  go_enter Try.func3, Try.ntmps3
  go_wp2_with fail
  refine (big_any _ ao bo n m cap dap hn hm).mono ?_
  rintro e w1 ⟨b, rfl, rfl⟩
  clear hn hm
  cases b with
  | true =>
    go_wp2
    go_ret
    exact ⟨rfl, New.refl _⟩
  | false =>
    go_wp2_with fail
    refine (drawRunRow_any _ ao n cap H1.out).mono ?_
    rintro e w1 ⟨ra, rn, rc, l, fa, fm, fc, xs, rfl, hl, hx, hw⟩
    have IL_w1 := Lib.hid hl
    have IX_w1 := Lib.hid hx
    have NN_w1 := Lib.hid hw
    clear hl hx hw H1
    go_wp2_with fail
    refine (iRunRow_any _ ra rn rc l fa fm fc xs IL_w1.out IX_w1.out).mono ?_
    rintro e u1 ⟨ga, gn, gc, rfl, own, n_u1⟩
    have IL_u1 := Lib.hid (IL_w1.out.new n_u1)
    have IX_u1 := Lib.hid (IX_w1.out.new n_u1)
    have NN_u1 := Lib.hid (NN_w1.out.trans n_u1)
    have IG_u1 := Lib.hid (own.ints)
    clear n_u1 NN_w1 IL_w1 IX_w1 own
    obtain ⟨A, hA⟩ : ∃ T, T = askB l xs := ⟨_, rfl⟩
    rw [← hA]
    have HA := Lib.hid hA
    clear hA
    go_wp2_with fail
    refine (sRunRow_any _ ra rn rc l fa fm fc xs IL_u1.out IX_u1.out).mono ?_
    rintro e u2 ⟨ga2, gn2, gc2, rfl, own, n_u2⟩
    have IL_u2 := Lib.hid (IL_u1.out.new n_u2)
    have IX_u2 := Lib.hid (IX_u1.out.new n_u2)
    have IG_u2 := Lib.hid (IG_u1.out.new n_u2)
    have NN_u2 := Lib.hid (NN_u1.out.trans n_u2)
    have IGS_u2 := Lib.hid (own.ints)
    clear n_u2 NN_u1 IL_u1 IX_u1 IG_u1 own
    rw [← HA.out]
    go_wp2_with fail
    refine (iRowAfter_any _ ra rn rc l fa fm fc xs IL_u2.out IX_u2.out).mono ?_
    rintro e u3 ⟨ea, en, ec, rfl, own, n_u3⟩
    have IL_u3 := Lib.hid (IL_u2.out.new n_u3)
    have IX_u3 := Lib.hid (IX_u2.out.new n_u3)
    have IG_u3 := Lib.hid (IG_u2.out.new n_u3)
    have IGS_u3 := Lib.hid (IGS_u2.out.new n_u3)
    have NN_u3 := Lib.hid (NN_u2.out.trans n_u3)
    have IE_u3 := Lib.hid (own.reads)
    clear n_u3 NN_u2 IL_u2 IX_u2 IG_u2 IGS_u2 own
    rw [← HA.out]
    go_wp2_with fail
    refine (sRowAfter_any _ ra rn rc l fa fm fc xs IL_u3.out IX_u3.out).mono ?_
    rintro e u4 ⟨ea2, en2, ec2, rfl, own, n_u4⟩
    have IL_u4 := Lib.hid (IL_u3.out.new n_u4)
    have IX_u4 := Lib.hid (IX_u3.out.new n_u4)
    have IG_u4 := Lib.hid (IG_u3.out.new n_u4)
    have IGS_u4 := Lib.hid (IGS_u3.out.new n_u4)
    have IE_u4 := Lib.hid (IE_u3.out.new n_u4)
    have NN_u4 := Lib.hid (NN_u3.out.trans n_u4)
    have IES_u4 := Lib.hid (own.reads)
    clear n_u4 NN_u3 IL_u3 IX_u3 IG_u3 IGS_u3 IE_u3 own
    rw [← HA.out]
    go_wp2_with fail
    refine (iSpillsOf_any _ ra rn rc l fa fm fc xs IL_u4.out IX_u4.out).mono ?_
    rintro e u5 ⟨pa, pn, pc, rfl, own, n_u5⟩
    have IL_u5 := Lib.hid (IL_u4.out.new n_u5)
    have IX_u5 := Lib.hid (IX_u4.out.new n_u5)
    have IG_u5 := Lib.hid (IG_u4.out.new n_u5)
    have IGS_u5 := Lib.hid (IGS_u4.out.new n_u5)
    have IE_u5 := Lib.hid (IE_u4.out.new n_u5)
    have IES_u5 := Lib.hid (IES_u4.out.new n_u5)
    have NN_u5 := Lib.hid (NN_u4.out.trans n_u5)
    have ISP_u5 := Lib.hid (own.ints)
    clear n_u5 NN_u4 IL_u4 IX_u4 IG_u4 IGS_u4 IE_u4 IES_u4 own
    rw [← HA.out]
    go_wp2_with fail
    refine (sSpillsOf_any _ ra rn rc l fa fm fc xs IL_u5.out IX_u5.out).mono ?_
    rintro e u6 ⟨pa2, pn2, pc2, rfl, own, n_u6⟩
    have IL_u6 := Lib.hid (IL_u5.out.new n_u6)
    have IX_u6 := Lib.hid (IX_u5.out.new n_u6)
    have IG_u6 := Lib.hid (IG_u5.out.new n_u6)
    have IGS_u6 := Lib.hid (IGS_u5.out.new n_u6)
    have IE_u6 := Lib.hid (IE_u5.out.new n_u6)
    have IES_u6 := Lib.hid (IES_u5.out.new n_u6)
    have ISP_u6 := Lib.hid (ISP_u5.out.new n_u6)
    have NN_u6 := Lib.hid (NN_u5.out.trans n_u6)
    have ISPS_u6 := Lib.hid (own.ints)
    clear n_u6 NN_u5 IL_u5 IX_u5 IG_u5 IGS_u5 IE_u5 IES_u5 ISP_u5 own
    rw [← HA.out]
    go_wp2_with fail
    refine (iFirstSpill_any _ ra rn rc l fa fm fc xs IL_u6.out IX_u6.out).mono ?_
    rintro e u7 ⟨rfl, n_u7⟩
    have IL_u7 := Lib.hid (IL_u6.out.new n_u7)
    have IX_u7 := Lib.hid (IX_u6.out.new n_u7)
    have IG_u7 := Lib.hid (IG_u6.out.new n_u7)
    have IGS_u7 := Lib.hid (IGS_u6.out.new n_u7)
    have IE_u7 := Lib.hid (IE_u6.out.new n_u7)
    have IES_u7 := Lib.hid (IES_u6.out.new n_u7)
    have ISP_u7 := Lib.hid (ISP_u6.out.new n_u7)
    have ISPS_u7 := Lib.hid (ISPS_u6.out.new n_u7)
    have NN_u7 := Lib.hid (NN_u6.out.trans n_u7)
    clear n_u7 NN_u6 IL_u6 IX_u6 IG_u6 IGS_u6 IE_u6 IES_u6 ISP_u6 ISPS_u6
    obtain ⟨ft, hft⟩ : ∃ T, T = (fsM l xs).1 := ⟨_, rfl⟩
    rw [← hft]
    have Hft := Lib.hid hft
    clear hft
    obtain ⟨fb, hfb⟩ : ∃ T, T = (fsM l xs).2.1 := ⟨_, rfl⟩
    rw [← hfb]
    have Hfb := Lib.hid hfb
    clear hfb
    obtain ⟨FF, hFF⟩ : ∃ T, T = (fsM l xs).2.2 := ⟨_, rfl⟩
    rw [← hFF]
    have HFF := Lib.hid hFF
    clear hFF
    go_wp2_with fail
    refine (sFirstSpill_any _ ra rn rc l fa fm fc xs IL_u7.out IX_u7.out).mono ?_
    rintro e u8 ⟨rfl, n_u8⟩
    have IL_u8 := Lib.hid (IL_u7.out.new n_u8)
    have IX_u8 := Lib.hid (IX_u7.out.new n_u8)
    have IG_u8 := Lib.hid (IG_u7.out.new n_u8)
    have IGS_u8 := Lib.hid (IGS_u7.out.new n_u8)
    have IE_u8 := Lib.hid (IE_u7.out.new n_u8)
    have IES_u8 := Lib.hid (IES_u7.out.new n_u8)
    have ISP_u8 := Lib.hid (ISP_u7.out.new n_u8)
    have ISPS_u8 := Lib.hid (ISPS_u7.out.new n_u8)
    have NN_u8 := Lib.hid (NN_u7.out.trans n_u8)
    clear n_u8 NN_u7 IL_u7 IX_u7 IG_u7 IGS_u7 IE_u7 IES_u7 ISP_u7 ISPS_u7
    rw [← Hft.out, ← Hfb.out, ← HFF.out]
    go_wp2_with fail
    refine (iPeakOut_any _ ra rn rc l fa fm fc xs IL_u8.out IX_u8.out).mono ?_
    rintro e u9 ⟨rfl, n_u9⟩
    have IL_u9 := Lib.hid (IL_u8.out.new n_u9)
    have IX_u9 := Lib.hid (IX_u8.out.new n_u9)
    have IG_u9 := Lib.hid (IG_u8.out.new n_u9)
    have IGS_u9 := Lib.hid (IGS_u8.out.new n_u9)
    have IE_u9 := Lib.hid (IE_u8.out.new n_u9)
    have IES_u9 := Lib.hid (IES_u8.out.new n_u9)
    have ISP_u9 := Lib.hid (ISP_u8.out.new n_u9)
    have ISPS_u9 := Lib.hid (ISPS_u8.out.new n_u9)
    have NN_u9 := Lib.hid (NN_u8.out.trans n_u9)
    clear n_u9 NN_u8 IL_u8 IX_u8 IG_u8 IGS_u8 IE_u8 IES_u8 ISP_u8 ISPS_u8
    obtain ⟨pk, hpk⟩ : ∃ T, T = peakM l xs := ⟨_, rfl⟩
    rw [← hpk]
    have Hpk := Lib.hid hpk
    clear hpk
    rw [← HA.out]
    go_wp2_with fail
    refine (sPeakOut_any _ ra rn rc l fa fm fc xs IL_u9.out IX_u9.out).mono ?_
    rintro e u10 ⟨rfl, n_u10⟩
    have IL_u10 := Lib.hid (IL_u9.out.new n_u10)
    have IX_u10 := Lib.hid (IX_u9.out.new n_u10)
    have IG_u10 := Lib.hid (IG_u9.out.new n_u10)
    have IGS_u10 := Lib.hid (IGS_u9.out.new n_u10)
    have IE_u10 := Lib.hid (IE_u9.out.new n_u10)
    have IES_u10 := Lib.hid (IES_u9.out.new n_u10)
    have ISP_u10 := Lib.hid (ISP_u9.out.new n_u10)
    have ISPS_u10 := Lib.hid (ISPS_u9.out.new n_u10)
    have NN_u10 := Lib.hid (NN_u9.out.trans n_u10)
    clear n_u10 NN_u9 IL_u9 IX_u9 IG_u9 IGS_u9 IE_u9 IES_u9 ISP_u9 ISPS_u9
    rw [← Hpk.out, ← HA.out]
    go_wp2_with fail
    refine (iIsHeldBack_any _ ra rn rc l fa fm fc xs IL_u10.out IX_u10.out).mono ?_
    rintro e u11 ⟨rfl, n_u11⟩
    have IL_u11 := Lib.hid (IL_u10.out.new n_u11)
    have IX_u11 := Lib.hid (IX_u10.out.new n_u11)
    have IG_u11 := Lib.hid (IG_u10.out.new n_u11)
    have IGS_u11 := Lib.hid (IGS_u10.out.new n_u11)
    have IE_u11 := Lib.hid (IE_u10.out.new n_u11)
    have IES_u11 := Lib.hid (IES_u10.out.new n_u11)
    have ISP_u11 := Lib.hid (ISP_u10.out.new n_u11)
    have ISPS_u11 := Lib.hid (ISPS_u10.out.new n_u11)
    have NN_u11 := Lib.hid (NN_u10.out.trans n_u11)
    clear n_u11 NN_u10 IL_u10 IX_u10 IG_u10 IGS_u10 IE_u10 IES_u10 ISP_u10 ISPS_u10
    obtain ⟨BK, hBK⟩ : ∃ T, T = (askB l xs && backB l xs) := ⟨_, rfl⟩
    rw [← hBK]
    have HBK := Lib.hid hBK
    clear hBK
    rw [← HA.out]
    go_wp2_with fail
    refine (sIsHeldBack_any _ ra rn rc l fa fm fc xs IL_u11.out IX_u11.out).mono ?_
    rintro e u12 ⟨rfl, n_u12⟩
    have IL_u12 := Lib.hid (IL_u11.out.new n_u12)
    have IX_u12 := Lib.hid (IX_u11.out.new n_u12)
    have IG_u12 := Lib.hid (IG_u11.out.new n_u12)
    have IGS_u12 := Lib.hid (IGS_u11.out.new n_u12)
    have IE_u12 := Lib.hid (IE_u11.out.new n_u12)
    have IES_u12 := Lib.hid (IES_u11.out.new n_u12)
    have ISP_u12 := Lib.hid (ISP_u11.out.new n_u12)
    have ISPS_u12 := Lib.hid (ISPS_u11.out.new n_u12)
    have NN_u12 := Lib.hid (NN_u11.out.trans n_u12)
    clear n_u12 NN_u11 IL_u11 IX_u11 IG_u11 IGS_u11 IE_u11 IES_u11 ISP_u11 ISPS_u11
    rw [← HBK.out, ← HA.out]
    go_upto_region 16 with fail
    go_cut [241] from 146 to 241 (fun v W => v = .bool false ∧ New u12 W)
    case first =>
      by_cases rb : rowB l = true
      · as_aux_lemma =>
        have RB := Lib.hid rb
        have FB := Lib.hid (show flowB xs = A by rw [HA.out]; unfold askB; rw [rb, Bool.true_and])
        clear rb
        go_wp2_with fail
        refine (hSame_same _ ga ga2 gn gn2 gc gc2 _ IG_u12.out IGS_u12.out).mono ?_
        rintro e z1 ⟨rfl, nz⟩
        have Z1 := Lib.hid nz
        clear nz
        go_wp2_with fail
        refine (hBasins_same _ ea ea2 en en2 ec ec2 _ (IE_u12.out.new Z1.out) (IES_u12.out.new Z1.out)).mono ?_
        rintro e z2 ⟨rfl, nz⟩
        have Z2 := Lib.hid (Z1.out.trans nz)
        clear nz Z1
        go_wp2_with fail
        refine (hSame_same _ pa pa2 pn pn2 pc pc2 _ (ISP_u12.out.new Z2.out) (ISPS_u12.out.new Z2.out)).mono ?_
        rintro e z3 ⟨rfl, nz⟩
        have Z3 := Lib.hid (Z2.out.trans nz)
        clear nz Z2
        go_wp2_with fail
        refine (iIsRow_any _ ra rn rc l (IL_u12.out.new Z3.out)).mono ?_
        rintro e z4 ⟨rfl, nz⟩
        have Z4 := Lib.hid (Z3.out.trans nz)
        clear nz Z3
        rw [RB.out]
        go_wp2_with fail
        refine (iAreFlows_q _ fa fm fc xs (IX_u12.out.new Z4.out)).mono ?_
        rintro e _ ⟨rfl, rfl⟩
        rw [FB.out]
        go_wp2_with fail
        go_meet
        exact ⟨by first | rfl | simp, Z4.out⟩
      · as_aux_lemma =>
        have rf : rowB l = false := by simpa using rb
        have af : A = false := by rw [HA.out]; unfold askB; rw [rf]; rfl
        have RB := Lib.hid rf
        subst af
        clear rb rf
        go_wp2_with fail
        refine (hSame_same _ ga ga2 gn gn2 gc gc2 _ IG_u12.out IGS_u12.out).mono ?_
        rintro e z1 ⟨rfl, nz⟩
        have Z1 := Lib.hid nz
        clear nz
        go_wp2_with fail
        refine (hBasins_same _ ea ea2 en en2 ec ec2 _ (IE_u12.out.new Z1.out) (IES_u12.out.new Z1.out)).mono ?_
        rintro e z2 ⟨rfl, nz⟩
        have Z2 := Lib.hid (Z1.out.trans nz)
        clear nz Z1
        go_wp2_with fail
        refine (hSame_same _ pa pa2 pn pn2 pc pc2 _ (ISP_u12.out.new Z2.out) (ISPS_u12.out.new Z2.out)).mono ?_
        rintro e z3 ⟨rfl, nz⟩
        have Z3 := Lib.hid (Z2.out.trans nz)
        clear nz Z2
        go_wp2_with fail
        refine (iIsRow_any _ ra rn rc l (IL_u12.out.new Z3.out)).mono ?_
        rintro e z4 ⟨rfl, nz⟩
        have Z4 := Lib.hid (Z3.out.trans nz)
        clear nz Z3
        rw [RB.out]
        go_wp2_with fail
        go_meet
        exact ⟨by first | rfl | simp, Z4.out⟩
    case rest =>
    obtain ⟨rfl, ew⟩ := hcut
    obtain ⟨u13, hu13⟩ : ∃ W, W = wc := ⟨_, rfl⟩
    rw [← hu13] at ew ⊢
    have IL_u13 := Lib.hid (IL_u12.out.new ew)
    have IX_u13 := Lib.hid (IX_u12.out.new ew)
    have IG_u13 := Lib.hid (IG_u12.out.new ew)
    have IE_u13 := Lib.hid (IE_u12.out.new ew)
    have ISP_u13 := Lib.hid (ISP_u12.out.new ew)
    have NN_u13 := Lib.hid (NN_u12.out.trans ew)
    clear hu13 ew NN_u12 IL_u12 IX_u12 IG_u12 IE_u12 ISP_u12 IGS_u12 IES_u12 ISPS_u12
    go_upto_if 242 with fail
    go_cut [] from 242 to 373 (fun W => New u13 W)
    case first =>
      cases A with
      | false =>
        go_wp2_with fail
        go_meet
        exact New.refl _
      | true =>
        as_aux_lemma =>
        obtain ⟨k0, hk0⟩ : ∃ W, W = u13 := ⟨_, rfl⟩
        have NN_k0 := Lib.hid (New.refl k0)
        rw [← hk0] at IL_u13 IX_u13 IG_u13 IE_u13 ISP_u13 NN_u13 ⊢
        have aT := HA.out.symm
        obtain ⟨okr, okf⟩ := askB_iff.1 aT
        have OKR := Lib.hid okr
        have OKF := Lib.hid okf
        have AT := Lib.hid aT
        have RB := Lib.hid (rowB_iff.2 okr)
        have eg : runM l xs = givesTo l xs xs.length := by unfold runM; rw [if_pos aT]
        have ee : afterM l xs = rowK l xs xs.length := by unfold afterM; rw [if_pos aT]
        have lx := IX_u13.out.1
        have lr := IL_u13.out.1
        have lg := IG_u13.out.1
        have lsp := ISP_u13.out.1
        rw [eg, givesTo_length] at lg
        rw [soM_length aT] at lsp
        rw [← lx] at eg ee
        have GIN := Lib.hid (give_in aT)
        have IL_k0 := Lib.hid IL_u13.out
        have IX_k0 := Lib.hid IX_u13.out
        have IG_k0 := Lib.hid (show Ints k0 ga gn gc (givesTo l xs fm) by rw [← eg]; exact IG_u13.out)
        have IE_k0 := Lib.hid (show Basins k0 ea en ec (rowK l xs fm) by rw [← ee]; exact IE_u13.out)
        have ISP_k0 := Lib.hid ISP_u13.out
        have okE := rowK_ok okr okf fm (by omega)
        have REB := Lib.hid (rowB_iff.2 okE)
        have le : en = rn := by have q := IE_u13.out.1; rw [ee, rowK_length] at q; omega
        have LE := Lib.hid le
        have LX := Lib.hid lx
        have LR := Lib.hid lr
        have m60 : fm ≤ 60 := by rw [lx]; exact okf.1
        have r6 : rn ≤ 6 := by rw [lr]; exact okr.2.1
        obtain rfl : fm = gn := by omega
        obtain rfl : rn = pn := by omega
        have BT := Lib.hid (show BK = true by rw [HBK.out, back_true aT, aT]; rfl)
        have FS := Lib.hid (show FF = decide (0 < totK (soM l xs) rn) by rw [HFF.out, first_iff aT, lr])
        have PKE := Lib.hid (show maxK (givesTo l xs fm) fm = pk by rw [Hpk.out]; unfold peakM; rw [eg, givesTo_length])
        have GIN2 := Lib.hid (show ∀ j, j < fm → 0 ≤ (givesTo l xs fm)[j]?.getD 0 ∧ (givesTo l xs fm)[j]?.getD 0 ≤ 1000000 by intro j hj; have q := GIN.out j (by rw [eg, givesTo_length]; exact hj); rw [eg] at q; exact q)
        have SIN := Lib.hid (show ∀ j, j < rn → 0 ≤ (soM l xs)[j]?.getD 0 ∧ (soM l xs)[j]?.getD 0 ≤ 1000000 by intro j hj; rw [soM_get aT (by omega)]; have q := soK_bd okr okf xs.length j (Nat.le_refl _) (by omega); omega)
        have XIN := Lib.hid (show ∀ j, j < fm → 0 ≤ xs[j]?.getD 0 ∧ xs[j]?.getD 0 ≤ 1000000 by intro j hj; have q := okf.2 j (by omega); omega)
        have HK0 := Lib.hid hk0
        clear hk0 aT okr okf eg ee lx lr lg lsp okE le GIN IL_u13 IX_u13 IG_u13 IE_u13 ISP_u13 NN_u13 HBK HFF Hpk
        have bt := BT.out
        subst bt
        clear BT
        go_wp2_with fail
        refine (iHeldInRow_any _ ra rn rc l IL_k0.out).mono ?_
        rintro e k1 ⟨rfl, n_k1⟩
        have IL_k1 := Lib.hid (IL_k0.out.new n_k1)
        have IX_k1 := Lib.hid (IX_k0.out.new n_k1)
        have IG_k1 := Lib.hid (IG_k0.out.new n_k1)
        have IE_k1 := Lib.hid (IE_k0.out.new n_k1)
        have ISP_k1 := Lib.hid (ISP_k0.out.new n_k1)
        have NN_k1 := Lib.hid (NN_k0.out.trans n_k1)
        clear n_k1 NN_k0 IL_k0 IX_k0 IG_k0 IE_k0 ISP_k0
        obtain ⟨hb, hhb⟩ : ∃ T, T = hiM l := ⟨_, rfl⟩
        rw [← hhb]
        have Hhb := Lib.hid hhb
        clear hhb
        rw [RB.out]
        go_wp2_with fail
        refine (iHeldInRow_any _ ea en ec _ IE_k1.out).mono ?_
        rintro e k2 ⟨rfl, n_k2⟩
        have IL_k2 := Lib.hid (IL_k1.out.new n_k2)
        have IX_k2 := Lib.hid (IX_k1.out.new n_k2)
        have IG_k2 := Lib.hid (IG_k1.out.new n_k2)
        have IE_k2 := Lib.hid (IE_k1.out.new n_k2)
        have ISP_k2 := Lib.hid (ISP_k1.out.new n_k2)
        have NN_k2 := Lib.hid (NN_k1.out.trans n_k2)
        clear n_k2 NN_k1 IL_k1 IX_k1 IG_k1 IE_k1 ISP_k1
        obtain ⟨ha, hha⟩ : ∃ T, T = hiM (rowK l xs fm) := ⟨_, rfl⟩
        rw [← hha]
        have Hha := Lib.hid hha
        clear hha
        rw [REB.out]
        have eb : hb = heldS l := by rw [Hhb.out]; unfold hiM; rw [if_pos RB.out]
        have ea9 : ha = heldS (rowK l xs fm) := by rw [Hha.out]; unfold hiM; rw [if_pos REB.out]
        have kp := row_keep l xs fm fm (Nat.le_refl _)
        have b1 := heldK_bd OKR.out l.length (Nat.le_refl _)
        have b2 := totK_in XIN.out fm (Nat.le_refl _)
        have b3 := totK_in GIN2.out fm (Nat.le_refl _)
        have b4 := OKR.out.2.1
        have eb' : hb = heldK l l.length := eb
        rw [← eb, ← ea9] at kp
        obtain ⟨sx, hsx⟩ : ∃ T, T = totK xs fm := ⟨_, rfl⟩
        obtain ⟨sg, hsg⟩ : ∃ T, T = totK (givesTo l xs fm) fm := ⟨_, rfl⟩
        obtain ⟨sp, hsp⟩ : ∃ T, T = totK (soM l xs) rn := ⟨_, rfl⟩
        rw [← hsx] at kp b2
        rw [← hsg] at kp b3
        have g1 : IntKind.i64.wrap (hb + sx) = hb + sx := i64_in _ (by omega)
        have g2 : IntKind.i64.wrap (hb + sx - sg) = ha := by rw [show hb + sx - sg = ha by omega]; exact i64_in _ (by omega)
        have FS2 := Lib.hid (show FF = decide (0 < sp) by rw [FS.out, hsp])
        have SX := Lib.hid (fun W (q : New k2 W) => hSum_any W fa fm fc xs (IX_k2.out.new q) (by omega) XIN.out)
        rw [← hsx] at SX
        have SG := Lib.hid (fun W (q : New k2 W) => hSum_any W ga fm gc _ (IG_k2.out.new q) (by omega) GIN2.out)
        rw [← hsg] at SG
        have SP := Lib.hid (fun W (q : New k2 W) => hSum_any W pa rn pc _ (ISP_k2.out.new q) (by omega) SIN.out)
        rw [← hsp] at SP
        clear eb ea9 kp b1 b2 b3 b4 eb' hsx hsg hsp FS
        go_upto_region 21 with fail
        go_cut [287] from 253 to 287 (fun v W => v = .bool false ∧ W = k2)
        case first =>
          by_cases hs : 0 < sp
          · have ff : FF = true := by rw [FS2.out]; exact decide_eq_true hs
            subst ff
            go_wp2_with fail
            refine (SX.out _ (New.refl _)).mono ?_
            rintro e _ ⟨rfl, rfl⟩
            go_wp2_with fail
            refine (SG.out _ (New.refl _)).mono ?_
            rintro e _ ⟨rfl, rfl⟩
            go_wp2_with fail
            refine (SP.out _ (New.refl _)).mono ?_
            rintro e _ ⟨rfl, rfl⟩
            go_wp2_with fail
            go_meet
            exact ⟨by first | rfl | simp, rfl⟩
          · have ff : FF = false := by rw [FS2.out]; exact decide_eq_false hs
            have hs2 : sp ≤ 0 := by omega
            subst ff
            go_wp2_with fail
            refine (SX.out _ (New.refl _)).mono ?_
            rintro e _ ⟨rfl, rfl⟩
            go_wp2_with fail
            refine (SG.out _ (New.refl _)).mono ?_
            rintro e _ ⟨rfl, rfl⟩
            go_wp2_with fail
            refine (SP.out _ (New.refl _)).mono ?_
            rintro e _ ⟨rfl, rfl⟩
            go_wp2_with fail
            go_meet
            exact ⟨by first | rfl | (simp; omega), rfl⟩
        case rest =>
        obtain ⟨rfl, ew⟩ := hcut
        subst ew
        clear SX SG SP FS2 g1 g2 Hhb Hha
        go_wp2
        go_loopw [37, 38, 291] (fun now most i wr => ∃ (j : Nat) (na : Option Addr) (nn nc : Nat), j ≤ fm ∧ i = .int .i64 (j : Int) ∧ now = .slice na nn nc ∧ most = .int .i64 (maxK (givesTo l xs fm) j) ∧ Basins wr na nn nc (rowK l xs j) ∧ New wc wr) (fun _ _ i _ => fm - (intOf i).toNat)
        case atStart => exact ⟨0, ra, rn, rc, Nat.zero_le _, rfl, rfl, rfl, IL_k2.out, New.refl _⟩
        case round =>
          obtain ⟨j, na, nn, nc, hj, rfl, rfl, rfl, hrow, hnw⟩ := hrel
          have NW := Lib.hid hnw
          have RW := Lib.hid hrow
          clear hnw hrow
          by_cases hlt : j < fm
          · as_aux_lemma =>
            have jx : j < xs.length := by have := LX.out; omega
            have xb := OKF.out.2 j jx
            have okj := rowK_ok OKR.out OKF.out j (by omega)
            have tb : trB (rowK l xs j) (xs[j]?.getD 0) = true := trB_iff.2 ⟨okj, xb⟩
            have tl : trL (rowK l xs j) (xs[j]?.getD 0) = rowK l xs (j + 1) := by unfold trL; rw [if_pos tb]; rfl
            have tg : trG (rowK l xs j) (xs[j]?.getD 0) = (givesTo l xs fm)[j]?.getD 0 := by unfold trG; rw [if_pos tb, givesTo_get _ _ _ _ hlt]; rfl
            have okn := rowK_ok OKR.out OKF.out (j + 1) (by omega)
            have rbn := rowB_iff.2 okn
            have TB := Lib.hid tb
            have TL := Lib.hid tl
            have TG := Lib.hid tg
            have RBN := Lib.hid rbn
            have MK := Lib.hid (show maxK (givesTo l xs fm) (j + 1) = max (maxK (givesTo l xs fm) j) ((givesTo l xs fm)[j]?.getD 0) from rfl)
            obtain ⟨b2, o2, rfl, hc2, _⟩ := (IX_k2.out.new NW.out).at hlt
            obtain ⟨x, hx⟩ : ∃ x, x = xs[j]?.getD 0 := ⟨_, rfl⟩
            rw [← hx] at hc2 TB TL TG
            obtain ⟨gv, hgv⟩ : ∃ x, x = (givesTo l xs fm)[j]?.getD 0 := ⟨_, rfl⟩
            rw [← hgv] at TG MK
            have HG := Lib.hid hgv
            obtain ⟨mx, hmx⟩ : ∃ x, x = maxK (givesTo l xs fm) j := ⟨_, rfl⟩
            rw [← hmx] at MK ⊢
            have hltI : (j : Int) < fm := by omega
            have gk : IntKind.i64.wrap ((j : Int) + 1) = (j : Int) + 1 := i64_in _ (by omega)
            clear jx xb okj tb tl tg okn rbn hx hgv hmx
            go_wp2_with fail
            refine (iTickRow_any _ na nn nc (rowK l xs j) x RW.out).mono ?_
            rintro e q1 ⟨oa, on, oc, rfl, own, n1⟩
            have RN := Lib.hid (show Basins q1 oa on oc (rowK l xs (j + 1)) by rw [← TL.out]; exact own.reads)
            have N1 := Lib.hid (NW.out.trans n1)
            clear own n1 hc2
            rw [TB.out, TG.out]
            obtain ⟨b3, o3, rfl, hc3, _⟩ := (IG_k2.out.new N1.out).at hlt
            rw [← HG.out] at hc3
            go_wp2_with fail
            refine (iIsRow_any _ oa on oc _ RN.out).mono ?_
            rintro e q2 ⟨rfl, n2⟩
            have RN2 := Lib.hid (RN.out.new n2)
            have N2 := Lib.hid (N1.out.trans n2)
            clear n2 hc3
            rw [RBN.out]
            by_cases hgt : mx < gv
            · go_wp2
              go_roundw
              case rel => exact ⟨j + 1, oa, on, oc, by omega, by go_num, rfl, by rw [MK.out, Int.max_eq_right (by omega)], RN2.out, N2.out⟩
              case measure => simp [intOf]; omega
            · have hge : gv ≤ mx := by omega
              clear hgt
              go_wp2
              go_roundw
              case rel => exact ⟨j + 1, oa, on, oc, by omega, by go_num, rfl, by rw [MK.out, Int.max_eq_left hge], RN2.out, N2.out⟩
              case measure => simp [intOf]; omega
          · obtain rfl : fm = j := by omega
            rw [PKE.out]
            go_wp2_with fail
            refine (hBasins_same _ na ea nn en nc ec _ RW.out (IE_k2.out.new NW.out)).mono ?_
            rintro e q1 ⟨rfl, n1⟩
            have N1 := Lib.hid (NW.out.trans n1)
            clear n1 RW NW
            obtain ⟨q0, hq0⟩ : ∃ W, W = q1 := ⟨_, rfl⟩
            rw [← hq0] at N1 ⊢
            clear hq0 hlt hj
            go_wp2
            go_loopw [335] (fun i wr => ∃ j : Nat, j ≤ rn ∧ i = .int .i64 (j : Int) ∧ New q0 wr) (fun i _ => rn - (intOf i).toNat)
            case atStart => exact ⟨0, Nat.zero_le _, rfl, New.refl _⟩
            case round =>
              obtain ⟨j, hj, rfl, hnw⟩ := hrel
              have NW := Lib.hid hnw
              clear hnw
              by_cases hlt : j < rn
              · as_aux_lemma =>
                have jl : j < l.length := by have := LR.out; omega
                obtain ⟨a1, a2, a3⟩ := along_last AT.out jl
                have A1 := Lib.hid a1
                have A2 := Lib.hid a2
                have A3 := Lib.hid a3
                have N2 := Lib.hid (N1.out.trans NW.out)
                have gk : IntKind.i64.wrap ((j : Int) + 1) = (j : Int) + 1 := i64_in _ (by omega)
                clear a1 a2 a3
                go_wp2_with fail
                refine (iHeldAlong_any _ ra rn rc l (j : Int) fa fm fc xs (IL_k2.out.new N2.out) (IX_k2.out.new N2.out)).mono ?_
                rintro e q3 ⟨va, vn, vc, rfl, own, n3⟩
                have IV := Lib.hid own.ints
                have N3 := Lib.hid (N2.out.trans n3)
                have M3 := Lib.hid (NW.out.trans n3)
                clear own n3 N2
                rw [A1.out]
                obtain rfl : fm = vn := by have q := IV.out.1; rw [A2.out] at q; have := LX.out; omega
                obtain ⟨b4, o4, rfl, g0, g1, g2⟩ := (IE_k2.out.new N3.out).2.2.2.1 j (by have := LE.out; omega)
                have hjE : (j : Int) < en := by have := LE.out; omega
                by_cases hz : 0 < fm
                · obtain ⟨k, hk⟩ : ∃ k, fm = k + 1 := ⟨fm - 1, by omega⟩
                  obtain ⟨b5, o5, rfl, hc5, _⟩ := IV.out.at (j := k) (by omega)
                  have e9 := A3.out k (by have := LX.out; omega)
                  rw [e9, ← LX.out] at hc5
                  obtain ⟨hv, hhv⟩ : ∃ a, a = ((rowK l xs fm)[j]?.getD (0, 0, 0)).2.2 := ⟨_, rfl⟩
                  rw [← hhv] at hc5 g2
                  have gw : IntKind.i64.wrap ((fm : Int) - 1) = (k : Int) := by rw [i64_in _ (by omega)]; omega
                  have hkI : (k : Int) < fm := by omega
                  have hzI : (0 : Int) < fm := by omega
                  clear g0 g1 e9 hhv hk
                  go_wp2
                  go_quiet (fail)
                  go_wp2
                  go_roundw
                  case rel => exact ⟨j + 1, by omega, by go_num, M3.out.drewN _⟩
                  case measure => simp [intOf]; omega
                · clear g0 g1 g2
                  go_wp2
                  go_quiet (fail)
                  go_wp2
                  go_roundw
                  case rel => exact ⟨j + 1, by omega, by go_num, M3.out.drewN _⟩
                  case measure => simp [intOf]; omega
              · go_wp2_with fail
                go_meet
                exact HK0.out ▸ (NN_k2.out.trans (N1.out.trans NW.out))
    case rest =>
    clear IL_u13 IG_u13 IE_u13 ISP_u13 HA Hft Hfb HFF Hpk HBK
    obtain ⟨u14, hu14⟩ : ∃ W, W = wc := ⟨_, rfl⟩
    rw [← hu14] at hcut ⊢
    have IX_u14 := Lib.hid (IX_u13.out.new hcut)
    have NN_u14 := Lib.hid (NN_u13.out.trans hcut)
    clear hu14 hcut NN_u13 IX_u13
    as_aux_lemma =>
    go_wp2_with fail
    refine (drawJoinRows_any _ bo m dap (H2.out.new NN_u14.out)).mono ?_
    rintro e y15 ⟨xa, xn, xc, a, ya, yn, yc, b, rfl, own, own2, n_y15⟩
    have IX_y15 := Lib.hid (IX_u14.out.new n_y15)
    have NN_y15 := Lib.hid (NN_u14.out.trans n_y15)
    have JA_y15 := Lib.hid (own)
    have JB_y15 := Lib.hid (own2)
    clear n_y15 NN_u14 IX_u14 own
    clear own2
    go_wp2_with fail
    refine (iJoinRows_any _ xa xn xc a ya yn yc b JA_y15.out JB_y15.out).mono ?_
    rintro e y16 ⟨ja, jn, jc, rfl, own, n_y16⟩
    have IX_y16 := Lib.hid (IX_y15.out.new n_y16)
    have JA_y16 := Lib.hid (JA_y15.out.new n_y16)
    have JB_y16 := Lib.hid (JB_y15.out.new n_y16)
    have NN_y16 := Lib.hid (NN_y15.out.trans n_y16)
    have IJ_y16 := Lib.hid (own.reads)
    clear n_y16 NN_y15 IX_y15 JA_y15 JB_y15 own
    obtain ⟨JJ, hJJ⟩ : ∃ T, T = jnB a b := ⟨_, rfl⟩
    rw [← hJJ]
    have HJJ := Lib.hid hJJ
    clear hJJ
    go_wp2_with fail
    refine (sJoinRows_any _ xa xn xc a ya yn yc b JA_y16.out JB_y16.out).mono ?_
    rintro e y17 ⟨ja2, jn2, jc2, rfl, own, n_y17⟩
    have IX_y17 := Lib.hid (IX_y16.out.new n_y17)
    have JA_y17 := Lib.hid (JA_y16.out.new n_y17)
    have JB_y17 := Lib.hid (JB_y16.out.new n_y17)
    have IJ_y17 := Lib.hid (IJ_y16.out.new n_y17)
    have NN_y17 := Lib.hid (NN_y16.out.trans n_y17)
    have IJS_y17 := Lib.hid (own.reads)
    clear n_y17 NN_y16 IX_y16 JA_y16 JB_y16 IJ_y16 own
    rw [← HJJ.out]
    go_wp2_with fail
    refine (hBasins_same _ ja ja2 jn jn2 jc jc2 _ IJ_y17.out IJS_y17.out).mono ?_
    rintro e y18 ⟨rfl, n_y18⟩
    have IX_y18 := Lib.hid (IX_y17.out.new n_y18)
    have JA_y18 := Lib.hid (JA_y17.out.new n_y18)
    have JB_y18 := Lib.hid (JB_y17.out.new n_y18)
    have IJ_y18 := Lib.hid (IJ_y17.out.new n_y18)
    have NN_y18 := Lib.hid (NN_y17.out.trans n_y18)
    clear n_y18 NN_y17 IX_y17 JA_y17 JB_y17 IJ_y17 IJS_y17
    go_upto_region 49 with fail
    go_cut [404] from 400 to 404 (fun v W => v = .bool (JJ && flowB xs) ∧ W = y18)
    case first =>
      cases JJ with
      | false =>
        go_wp2_with fail
        go_meet
        exact ⟨rfl, rfl⟩
      | true =>
        go_wp2_with fail
        refine (iAreFlows_q _ fa fm fc xs IX_y18.out).mono ?_
        rintro e _ ⟨rfl, rfl⟩
        go_wp2_with fail
        go_meet
        exact ⟨by rw [Bool.true_and], rfl⟩
    case rest =>
    obtain ⟨rfl, ew⟩ := hcut
    subst ew
    obtain ⟨CC, hCC⟩ : ∃ T, T = (JJ && flowB xs) := ⟨_, rfl⟩
    rw [← hCC]
    have HCC := Lib.hid hCC
    clear hCC
    go_upto_if 404 with fail
    obtain ⟨v9, hv9⟩ : ∃ W, W = wc := ⟨_, rfl⟩
    rw [← hv9] at IX_y18 JA_y18 JB_y18 IJ_y18 NN_y18 ⊢
    clear hv9
    go_cut [] from 405 to 438 (fun W => New v9 W)
    case first =>
      cases CC with
      | false =>
        go_wp2_with fail
        go_meet
        exact New.refl _
      | true =>
        as_aux_lemma =>
        have cc := HCC.out.symm
        rw [Bool.and_eq_true] at cc
        obtain ⟨j1, j2, j3⟩ := join_run (a := a) (b := b) (xs := xs) (by rw [← HJJ.out]; exact cc.1) cc.2
        have J1 := Lib.hid j1
        have J2 := Lib.hid j2
        have J3 := Lib.hid j3
        clear cc j1 j2 j3
        go_wp2_with fail
        refine (iRunRow_any _ xa xn xc a fa fm fc xs JA_y18.out IX_y18.out).mono ?_
        rintro e k1 ⟨fia, fin, fic, rfl, own, n1⟩
        have F1 := Lib.hid own.ints
        have N1 := Lib.hid n1
        clear own n1
        rw [J1.out]
        go_wp2_with fail
        refine (iRunRow_any _ ja jn jc _ fa fm fc xs (IJ_y18.out.new N1.out) (IX_y18.out.new N1.out)).mono ?_
        rintro e k2 ⟨ba, bn, bc, rfl, own, n2⟩
        have B2 := Lib.hid own.ints
        have F2 := Lib.hid (F1.out.new n2)
        have N2 := Lib.hid (N1.out.trans n2)
        clear own n2 N1 F1
        rw [J2.out]
        go_wp2_with fail
        refine (iAreFlows_q _ fia fin fic _ F2.out).mono ?_
        rintro e _ ⟨rfl, rfl⟩
        by_cases hf : flowB (runM a xs) = true
        · obtain ⟨j4, j5⟩ := J3.out hf
          have J4 := Lib.hid j4
          have J5 := Lib.hid j5
          rw [hf]
          clear j4 j5 hf
          go_wp2_with fail
          refine (iRunRow_any _ ya yn yc b fia fin fic _ (JB_y18.out.new N2.out) F2.out).mono ?_
          rintro e k3 ⟨ca, cn, cc, rfl, own, n3⟩
          have C3 := Lib.hid (show Ints k3 ca cn cc (runM (jnM a b) xs) by rw [← J5.out]; exact own.ints)
          have B3 := Lib.hid (B2.out.new n3)
          have N3 := Lib.hid (N2.out.trans n3)
          clear own n3 N2 B2 F2
          rw [J4.out]
          go_wp2_with fail
          refine (hSame_same _ ca ba cn bn cc bc _ C3.out B3.out).mono ?_
          rintro e k4 ⟨rfl, n4⟩
          have N4 := Lib.hid (N3.out.trans n4)
          clear n4 N3
          go_wp2_with fail
          go_meet
          exact N4.out
        · have hf2 : flowB (runM a xs) = false := by simpa using hf
          rw [hf2]
          go_wp2_with fail
          go_meet
          exact N2.out
    case rest =>
    obtain ⟨u0, hu0⟩ : ∃ W, W = wc := ⟨_, rfl⟩
    rw [← hu0] at hcut ⊢
    have NN_u0 := Lib.hid (NN_y18.out.trans hcut)
    clear hu0 hcut NN_y18 IX_y18 JA_y18 JB_y18 IJ_y18 HCC HJJ
    go_wp2_with fail
    refine (drawRunningTotals_any _ bo m dap (H2.out.new NN_u0.out)).mono ?_
    rintro e o19 ⟨ta, tn, tc, f, rfl, own, n_o19⟩
    have NN_o19 := Lib.hid (NN_u0.out.trans n_o19)
    have IF_o19 := Lib.hid (own)
    clear n_o19 NN_u0  own
    go_wp2_with fail
    refine (iRunningTotals_any _ ta tn tc f IF_o19.out).mono ?_
    rintro e o20 ⟨ua, un, uc, rfl, own, n_o20⟩
    have IF_o20 := Lib.hid (IF_o19.out.new n_o20)
    have NN_o20 := Lib.hid (NN_o19.out.trans n_o20)
    have IT_o20 := Lib.hid (own.ints)
    clear n_o20 NN_o19 IF_o19 own
    obtain ⟨TB, hTB⟩ : ∃ T, T = flowB f := ⟨_, rfl⟩
    rw [← hTB]
    have HTB := Lib.hid hTB
    clear hTB
    go_wp2_with fail
    refine (sRunningTotals_any _ ta tn tc f IF_o20.out).mono ?_
    rintro e o21 ⟨ua2, un2, uc2, rfl, own, n_o21⟩
    have IF_o21 := Lib.hid (IF_o20.out.new n_o21)
    have IT_o21 := Lib.hid (IT_o20.out.new n_o21)
    have NN_o21 := Lib.hid (NN_o20.out.trans n_o21)
    have ITS_o21 := Lib.hid (own.ints)
    clear n_o21 NN_o20 IF_o20 IT_o20 own
    rw [← HTB.out]
    have lu := IT_o21.out.1
    have lt := IF_o21.out.1
    cases TB with
    | false =>
      have u0 : (un : Int) = 0 := by rw [tot_none HTB.out.symm] at lu; simp only [List.length_nil] at lu; omega
      have un0 : un = 0 := by omega
      subst un0
      clear lu lt u0
      have QI := Lib.hid (fun W (q : New o21 W) => iAreFlows_q W ta tn tc f (IF_o21.out.new q))
      rw [← HTB.out] at QI
      have QS := Lib.hid (fun W (q : New o21 W) => sAreFlows_q W ta tn tc f (IF_o21.out.new q))
      rw [← HTB.out] at QS
      go_wp2
      go_quiet ((first | (go_at_call 19; exact Calls.quiet_of (hSame_q _ _ _ _ _ _ _ _ (IT_o21.out.new ((New.refl _).drewN _)) (ITS_o21.out.new ((New.refl _).drewN _)))) | (go_at_call 22; exact Calls.quiet_of_same (QI.out _ ((New.refl _).drewN _))) | (go_at_call 33; exact Calls.quiet_of_same (QS.out _ ((New.refl _).drewN _)))))
      go_wp2
      go_ret
      exact ⟨by first | rfl | simp, NN_o21.out.trans ((New.refl _).drewN _)⟩
    | true =>
      obtain ⟨t1, t2⟩ := tot_last HTB.out.symm
      have okf := flowB_iff.1 HTB.out.symm
      have eu : un = tn := by omega
      by_cases hz : tn = 0
      · have un0 : un = 0 := by omega
        subst un0
        clear lu lt t1 t2 okf eu hz
        have QI := Lib.hid (fun W (q : New o21 W) => iAreFlows_q W ta tn tc f (IF_o21.out.new q))
        rw [← HTB.out] at QI
        have QS := Lib.hid (fun W (q : New o21 W) => sAreFlows_q W ta tn tc f (IF_o21.out.new q))
        rw [← HTB.out] at QS
        go_wp2
        go_quiet ((first | (go_at_call 19; exact Calls.quiet_of (hSame_q _ _ _ _ _ _ _ _ (IT_o21.out.new ((New.refl _).drewN _)) (ITS_o21.out.new ((New.refl _).drewN _)))) | (go_at_call 22; exact Calls.quiet_of_same (QI.out _ ((New.refl _).drewN _))) | (go_at_call 33; exact Calls.quiet_of_same (QS.out _ ((New.refl _).drewN _)))))
        go_wp2
        go_ret
        exact ⟨by first | rfl | simp, NN_o21.out.trans ((New.refl _).drewN _)⟩
      · obtain ⟨k, hk⟩ : ∃ k, un = k + 1 := ⟨un - 1, by omega⟩
        have e9 := t2 k (by omega)
        obtain ⟨b5, o5, rfl, hc5, _⟩ := IT_o21.out.at (j := k) (by omega)
        rw [e9, ← lt] at hc5
        have FIN := Lib.hid (show ∀ j, j < tn → 0 ≤ f[j]?.getD 0 ∧ f[j]?.getD 0 ≤ 1000000 by intro j hj; have q := okf.2 j (by omega); omega)
        have t60 : tn ≤ 60 := by have := okf.1; omega
        obtain ⟨sf, hsf⟩ : ∃ T, T = totK f tn := ⟨_, rfl⟩
        rw [← hsf] at hc5
        have QU := Lib.hid (fun W (q : New o21 W) => (hSum_any W ta tn tc f (IF_o21.out.new q) (by omega) FIN.out).mono (fun e w' h => (⟨h.1, h.2.symm⟩ : e = .returned (.int .i64 (totK f tn)) ∧ w' = W)))
        rw [← hsf] at QU
        have gw : IntKind.i64.wrap ((un : Int) - 1) = (k : Int) := by rw [i64_in _ (by omega)]; omega
        have hkI : (k : Int) < un := by omega
        have unz : ¬ (un : Int) = 0 := by omega
        have unzN : ¬ un = 0 := by omega
        clear lu lt t1 t2 okf eu hz hk e9 hsf
        have QI := Lib.hid (fun W (q : New o21 W) => iAreFlows_q W ta tn tc f (IF_o21.out.new q))
        rw [← HTB.out] at QI
        have QS := Lib.hid (fun W (q : New o21 W) => sAreFlows_q W ta tn tc f (IF_o21.out.new q))
        rw [← HTB.out] at QS
        go_wp2
        go_quiet ((first | (go_at_call 19; exact Calls.quiet_of (hSame_q _ _ _ _ _ _ _ _ (IT_o21.out.new ((New.refl _).drewN _)) (ITS_o21.out.new ((New.refl _).drewN _)))) | (go_at_call 22; exact Calls.quiet_of_same (QI.out _ ((New.refl _).drewN _))) | (go_at_call 33; exact Calls.quiet_of_same (QS.out _ ((New.refl _).drewN _))) | (go_at_call 24; exact Calls.quiet_of_same (QU.out _ ((New.refl _).drewN _)))))
        go_wp2
        go_ret
        exact ⟨by first | rfl | simp, NN_o21.out.trans ((New.refl _).drewN _)⟩
end Go.Proofs.Ytchnnbkaiagpgaa
