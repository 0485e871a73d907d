/- The law of siphons that keep water. -/
import Derived.Test.YtfhpmihjfojbnaaSkm
import Derived.Test.YtfhpmihjfojbnaaSkn
import Derived.Test.YtfhpmihjfojbnaaElv
import Derived.Test.YtfhpmihjfojbnaaDrl
import Derived.Test.YtfhpmihjfojbnaaRunI
import Derived.Test.YtfhpmihjfojbnaaRunS
import Derived.Test.YtfhpmihjfojbnaaSipI
import Derived.Deep.CutRange
import Derived.BigQuiet
namespace Go.Proofs.Ytfhpmihjfojbnaa
open Go.RowKit Go.IntWalk

theorem big_any (w : World) (ao bo : Option Addr) (n m cap dap : Nat) (hn : n ≤ 9223372036854775807) (_hm : m ≤ 9223372036854775807) :
    Calls Try.prog 5 #[.slice ao n cap, .slice bo m dap] w fun e w' => ∃ b : Bool, e = .returned (.bool b) ∧ w = w' := by
  by_cases h1 : 1048576 < (n : Int)
  · go_enter Try.func5, Try.ntmps5
    go_wp2
    go_ret
    first | exact ⟨_, rfl, rfl⟩ | exact ⟨.inl rfl, rfl⟩ | exact ⟨.inr rfl, rfl⟩
  · have g : IntKind.i64.wrap (1048576 - (n : Int)) = 1048576 - (n : Int) := i64_in _ (by omega)
    by_cases h2 : 1048576 - (n : Int) < m
    · go_enter Try.func5, Try.ntmps5
      go_wp2
      go_ret
      first | exact ⟨_, rfl, rfl⟩ | exact ⟨.inl rfl, rfl⟩ | exact ⟨.inr rfl, rfl⟩
    · go_enter Try.func5, Try.ntmps5
      go_wp2
      go_ret
      first | exact ⟨_, rfl, rfl⟩ | exact ⟨.inl rfl, rfl⟩ | exact ⟨.inr rfl, rfl⟩

set_option maxRecDepth 100000 in
set_option maxHeartbeats 16000000 in
theorem law_SiphonsKeepWater (w : World) (ao bo : Option Addr) (n m cap dap : Nat) (h1 : Byts w ao n cap) (h2 : Byts w bo m dap) :
    Calls Try.prog 3 #[.slice ao n cap, .slice bo m dap] w fun e w' => e = .returned (.bool true) ∧ New w w' := by
  have H1 := Lib.hid h1
  have H2 := Lib.hid h2
  have hn := h1.2.1
  have hm := h2.2.1
  clear h1 h2
  go_enter Try.func3, Try.ntmps3
  go_wp2_with fail
  refine (big_any _ ao bo n m cap dap hn hm).mono ?_
  rintro e w1 ⟨b, rfl, rfl⟩
  clear hn hm
  cases b with
  | true =>
    go_wp2
    go_ret
    exact ⟨rfl, New.refl _⟩
  | false =>
    go_wp2_with fail
    refine (drawOutsOf_any _ ao n cap H1.out).mono ?_
    rintro e w1 ⟨a, b, c, d, u, r, fa, fm, fc, xs, rfl, hx, hw⟩
    have IX := Lib.hid hx
    have NN := Lib.hid hw
    clear hx hw H1
    go_upto_region 4 with fail
    obtain ⟨B5, hB5⟩ : ∃ B, B = w1.heap.size := ⟨_, rfl⟩
    have HB5 := Lib.hid hB5
    clear hB5
    obtain ⟨w0, hw0⟩ : ∃ W, W = (w1.alloc (.cells #[.int .i64 a, .int .i64 b, .int .i64 c, .int .i64 d] 25)).alloc (.cells #[.int .i64 u, .bool r] 27) := ⟨_, rfl⟩
    have n0 : New w1 w0 := by rw [hw0]; exact ((New.refl _).alloc _).alloc _
    have BS_w0 := Lib.hid (show Bx4 w0 B5 a b c d by rw [hw0]; exact (Bx4.fresh w1 a b c d _ HB5.out.symm).new ((New.refl _).alloc _))
    have BL_w0 := Lib.hid (show Bx2 w0 (B5 + 1) u r by rw [hw0]; exact Bx2.fresh _ u r _ (by have := HB5.out; simp; omega))
    have IX_w0 := Lib.hid (IX.out.new n0)
    have NN_w0 := Lib.hid (NN.out.trans n0)
    have hs : w1.heap.size = B5 := HB5.out.symm
    rw [← hw0]
    try rw [hs]
    clear hw0 n0 IX NN HB5 hs
    have BSx0 := BS_w0.out.c0
    have BSx1 := BS_w0.out.c1
    have BSx2 := BS_w0.out.c2
    have BSx3 := BS_w0.out.c3
    have BLx0 := BL_w0.out.c0
    have BLx1 := BL_w0.out.c1
    go_wp2_with fail
    clear BSx0 BSx1 BSx2 BSx3 BLx0 BLx1
    refine (iOutsOf_any _ a b c d u r fa fm fc xs IX_w0.out).mono ?_
    rintro e u1 ⟨oa, on, oc, rfl, own, n_u1⟩
    have BS_u1 := Lib.hid (BS_w0.out.new n_u1)
    have BL_u1 := Lib.hid (BL_w0.out.new n_u1)
    have IX_u1 := Lib.hid (IX_w0.out.new n_u1)
    have NN_u1 := Lib.hid (NN_w0.out.trans n_u1)
    have IO_u1 := Lib.hid (own.ints)
    clear n_u1 NN_w0 BS_w0 BL_w0 IX_w0 own
    obtain ⟨A, hA⟩ : ∃ T, T = runB a b c d u xs := ⟨_, rfl⟩
    rw [← hA]
    have HA := Lib.hid hA
    clear hA
    have BSx0 := BS_u1.out.c0
    have BSx1 := BS_u1.out.c1
    have BSx2 := BS_u1.out.c2
    have BSx3 := BS_u1.out.c3
    have BLx0 := BL_u1.out.c0
    have BLx1 := BL_u1.out.c1
    go_wp2_with fail
    clear BSx0 BSx1 BSx2 BSx3 BLx0 BLx1
    refine (sOutsOf_any _ a b c d u r fa fm fc xs IX_u1.out).mono ?_
    rintro e u2 ⟨oa2, on2, oc2, rfl, own, n_u2⟩
    have BS_u2 := Lib.hid (BS_u1.out.new n_u2)
    have BL_u2 := Lib.hid (BL_u1.out.new n_u2)
    have IX_u2 := Lib.hid (IX_u1.out.new n_u2)
    have IO_u2 := Lib.hid (IO_u1.out.new n_u2)
    have NN_u2 := Lib.hid (NN_u1.out.trans n_u2)
    have IOS_u2 := Lib.hid (own.ints)
    clear n_u2 NN_u1 BS_u1 BL_u1 IX_u1 IO_u1 own
    rw [← HA.out]
    have BSx0 := BS_u2.out.c0
    have BSx1 := BS_u2.out.c1
    have BSx2 := BS_u2.out.c2
    have BSx3 := BS_u2.out.c3
    have BLx0 := BL_u2.out.c0
    have BLx1 := BL_u2.out.c1
    go_wp2_with fail
    clear BSx0 BSx1 BSx2 BSx3 BLx0 BLx1
    refine (iLevelsOf_any _ a b c d u r fa fm fc xs IX_u2.out).mono ?_
    rintro e u3 ⟨la, ln, lc, rfl, own, n_u3⟩
    have BS_u3 := Lib.hid (BS_u2.out.new n_u3)
    have BL_u3 := Lib.hid (BL_u2.out.new n_u3)
    have IX_u3 := Lib.hid (IX_u2.out.new n_u3)
    have IO_u3 := Lib.hid (IO_u2.out.new n_u3)
    have IOS_u3 := Lib.hid (IOS_u2.out.new n_u3)
    have NN_u3 := Lib.hid (NN_u2.out.trans n_u3)
    have LV_u3 := Lib.hid (own.reads)
    clear n_u3 NN_u2 BS_u2 BL_u2 IX_u2 IO_u2 IOS_u2 own
    rw [← HA.out]
    have BSx0 := BS_u3.out.c0
    have BSx1 := BS_u3.out.c1
    have BSx2 := BS_u3.out.c2
    have BSx3 := BS_u3.out.c3
    have BLx0 := BL_u3.out.c0
    have BLx1 := BL_u3.out.c1
    go_wp2_with fail
    clear BSx0 BSx1 BSx2 BSx3 BLx0 BLx1
    refine (sLevelsOf_any _ a b c d u r fa fm fc xs IX_u3.out).mono ?_
    rintro e u4 ⟨la2, ln2, lc2, rfl, own, n_u4⟩
    have BS_u4 := Lib.hid (BS_u3.out.new n_u4)
    have BL_u4 := Lib.hid (BL_u3.out.new n_u4)
    have IX_u4 := Lib.hid (IX_u3.out.new n_u4)
    have IO_u4 := Lib.hid (IO_u3.out.new n_u4)
    have IOS_u4 := Lib.hid (IOS_u3.out.new n_u4)
    have LV_u4 := Lib.hid (LV_u3.out.new n_u4)
    have NN_u4 := Lib.hid (NN_u3.out.trans n_u4)
    have LVS_u4 := Lib.hid (own.reads)
    clear n_u4 NN_u3 BS_u3 BL_u3 IX_u3 IO_u3 IOS_u3 LV_u3 own
    rw [← HA.out]
    have BSx0 := BS_u4.out.c0
    have BSx1 := BS_u4.out.c1
    have BSx2 := BS_u4.out.c2
    have BSx3 := BS_u4.out.c3
    have BLx0 := BL_u4.out.c0
    have BLx1 := BL_u4.out.c1
    go_wp2_with fail
    clear BSx0 BSx1 BSx2 BSx3 BLx0 BLx1
    refine (iSpiltOf_any _ a b c d u r fa fm fc xs IX_u4.out).mono ?_
    rintro e u5 ⟨rfl, n_u5⟩
    have BS_u5 := Lib.hid (BS_u4.out.new n_u5)
    have BL_u5 := Lib.hid (BL_u4.out.new n_u5)
    have IX_u5 := Lib.hid (IX_u4.out.new n_u5)
    have IO_u5 := Lib.hid (IO_u4.out.new n_u5)
    have IOS_u5 := Lib.hid (IOS_u4.out.new n_u5)
    have LV_u5 := Lib.hid (LV_u4.out.new n_u5)
    have LVS_u5 := Lib.hid (LVS_u4.out.new n_u5)
    have NN_u5 := Lib.hid (NN_u4.out.trans n_u5)
    clear n_u5 NN_u4 BS_u4 BL_u4 IX_u4 IO_u4 IOS_u4 LV_u4 LVS_u4
    obtain ⟨sp, hsp⟩ : ∃ T, T = spM a b c d u r xs := ⟨_, rfl⟩
    rw [← hsp]
    have Hsp := Lib.hid hsp
    clear hsp
    rw [← HA.out]
    have BSx0 := BS_u5.out.c0
    have BSx1 := BS_u5.out.c1
    have BSx2 := BS_u5.out.c2
    have BSx3 := BS_u5.out.c3
    have BLx0 := BL_u5.out.c0
    have BLx1 := BL_u5.out.c1
    go_wp2_with fail
    clear BSx0 BSx1 BSx2 BSx3 BLx0 BLx1
    refine (sSpiltOf_any _ a b c d u r fa fm fc xs IX_u5.out).mono ?_
    rintro e u6 ⟨rfl, n_u6⟩
    have BS_u6 := Lib.hid (BS_u5.out.new n_u6)
    have BL_u6 := Lib.hid (BL_u5.out.new n_u6)
    have IX_u6 := Lib.hid (IX_u5.out.new n_u6)
    have IO_u6 := Lib.hid (IO_u5.out.new n_u6)
    have IOS_u6 := Lib.hid (IOS_u5.out.new n_u6)
    have LV_u6 := Lib.hid (LV_u5.out.new n_u6)
    have LVS_u6 := Lib.hid (LVS_u5.out.new n_u6)
    have NN_u6 := Lib.hid (NN_u5.out.trans n_u6)
    clear n_u6 NN_u5 BS_u5 BL_u5 IX_u5 IO_u5 IOS_u5 LV_u5 LVS_u5
    rw [← Hsp.out, ← HA.out]
    go_upto_region 10 with fail
    go_cut [143] from 104 to 143 (fun v W => v = .bool false ∧ New u6 W)
    case first =>
      as_aux_lemma =>
      go_wp2_with fail
      refine (eSame_same _ oa oa2 on on2 oc oc2 _ IO_u6.out IOS_u6.out).mono ?_
      rintro e z1 ⟨rfl, nz⟩
      have Z1 := Lib.hid nz
      clear nz
      go_wp2_with fail
      refine (eLevels_same _ la la2 ln ln2 lc lc2 _ (LV_u6.out.new Z1.out) (LVS_u6.out.new Z1.out)).mono ?_
      rintro e z2 ⟨rfl, nz⟩
      have Z2 := Lib.hid (Z1.out.trans nz)
      clear nz Z1
      go_wp2_with fail
      go_meet
      exact ⟨by first | rfl | simp, Z2.out⟩
    case rest =>
    obtain ⟨rfl, ew⟩ := hcut
    obtain ⟨u7, hu7⟩ : ∃ W, W = wc := ⟨_, rfl⟩
    rw [← hu7] at ew ⊢
    have BS_u7 := Lib.hid (BS_u6.out.new ew)
    have BL_u7 := Lib.hid (BL_u6.out.new ew)
    have IX_u7 := Lib.hid (IX_u6.out.new ew)
    have IO_u7 := Lib.hid (IO_u6.out.new ew)
    have LV_u7 := Lib.hid (LV_u6.out.new ew)
    have NN_u7 := Lib.hid (NN_u6.out.trans ew)
    clear hu7 ew NN_u6 BS_u6 BL_u6 IX_u6 IO_u6 LV_u6 IOS_u6 LVS_u6
    go_upto_if 144 with fail
    go_cut [] from 144 to 259 (fun W => New u7 W)
    case first =>
      cases A with
      | false =>
        go_wp2_with fail
        go_meet
        exact New.refl _
      | true =>
        as_aux_lemma =>
        have aT := HA.out.symm
        obtain ⟨⟨ok, u0, u1⟩, x100, xin⟩ := runB_iff.1 aT
        have OK := Lib.hid ok
        have UB := Lib.hid (And.intro u0 u1)
        have XIN := Lib.hid xin
        have lx := IX_u7.out.1
        have eo : outsM a b c d u r xs = outsTo a b c d u r xs fm := by unfold outsM; rw [if_pos aT, lx]
        have el : levsM a b c d u r xs = levsTo a b c d u r xs fm := by unfold levsM; rw [if_pos aT, lx]
        have es : sp = spK a b c d u r xs fm := by rw [Hsp.out]; unfold spM; rw [if_pos aT, lx]
        obtain ⟨k0, hk0⟩ : ∃ W, W = u7 := ⟨_, rfl⟩
        have HK0 := Lib.hid hk0
        have BS := Lib.hid (show Bx4 k0 B5 a b c d by rw [hk0]; exact BS_u7.out)
        have BL := Lib.hid (show Bx2 k0 (B5 + 1) u r by rw [hk0]; exact BL_u7.out)
        have IK := Lib.hid (show Ints k0 fa fm fc xs by rw [hk0]; exact IX_u7.out)
        have OO := Lib.hid (show Ints k0 oa on oc (outsTo a b c d u r xs fm) by rw [hk0, ← eo]; exact IO_u7.out)
        have LL := Lib.hid (show Levels k0 la ln lc (levsTo a b c d u r xs fm) by rw [hk0, ← el]; exact LV_u7.out)
        have lo := OO.out.1
        have ll := LL.out.1
        rw [outsTo_length] at lo
        rw [levsTo_length] at ll
        rw [← hk0]
        obtain rfl : fm = on := by omega
        have LLN := Lib.hid ll
        have LX := Lib.hid lx
        have m100 : fm ≤ 100 := by omega
        have OIN := Lib.hid (show ∀ j, j < fm → 0 ≤ (outsTo a b c d u r xs fm)[j]?.getD 0 ∧ (outsTo a b c d u r xs fm)[j]?.getD 0 ≤ 1000000 by intro j hj; rw [outsTo_get _ _ _ _ _ _ _ hj]; have q := outK_bd (r := r) ok u0 u1 xin j (by omega); omega)
        have XI2 := Lib.hid (show ∀ j, j < fm → 0 ≤ xs[j]?.getD 0 ∧ xs[j]?.getD 0 ≤ 1000000 by intro j hj; have q := xin j (by omega); omega)
        have kp := keep_k a b c d u r xs fm fm (Nat.le_refl _)
        have sb := spK_bd (r := r) ok u0 u1 xin fm (by omega)
        have hb := stK_bd (r := r) ok u0 u1 xin fm (by omega)
        have a60 : 1 ≤ a ∧ a ≤ 60 := ok.1
        have b2 := sumK_in XI2.out fm (Nat.le_refl _)
        have b3 := sumK_in OIN.out fm (Nat.le_refl _)
        obtain ⟨sx, hsx⟩ : ∃ T, T = sumK xs fm := ⟨_, rfl⟩
        obtain ⟨so, hso⟩ : ∃ T, T = sumK (outsTo a b c d u r xs fm) fm := ⟨_, rfl⟩
        obtain ⟨hN, hhN⟩ : ∃ T, T = (stK a b c d u r xs fm).1 := ⟨_, rfl⟩
        rw [← hsx] at kp b2
        rw [← hso] at kp b3
        rw [← es] at kp sb
        rw [← hhN] at kp hb
        have SX := Lib.hid (fun W (q : New k0 W) => (eSum_any W fa fm fc xs (IK.out.new q) (by omega) XI2.out).mono (fun e w' h => (⟨h.1, h.2.symm⟩ : e = .returned (.int .i64 (sumM xs)) ∧ w' = W)))
        have SO := Lib.hid (fun W (q : New k0 W) => (eSum_any W oa fm oc _ (OO.out.new q) (by omega) OIN.out).mono (fun e w' h => (⟨h.1, h.2.symm⟩ : e = .returned (.int .i64 (sumM (outsTo a b c d u r xs fm))) ∧ w' = W)))
        rw [show sumM xs = sx by unfold sumM; rw [← lx, hsx]] at SX
        rw [show sumM (outsTo a b c d u r xs fm) = so by unfold sumM; rw [outsTo_length, hso]] at SO
        have g1 : IntKind.i64.wrap ((fm : Int) + 1) = (ln : Int) := by rw [i64_in _ (by omega)]; omega
        have g2 : IntKind.i64.wrap (so + sp) = so + sp := i64_in _ (by omega)
        have g3 : IntKind.i64.wrap (so + sp + hN) = so + sp + hN := i64_in _ (by omega)
        have g4 : IntKind.i64.wrap (so + sp + hN - u) = sx := by rw [show so + sp + hN - u = sx by omega]; exact i64_in _ (by omega)
        have ESP := Lib.hid es
        clear aT ok u0 u1 x100 xin lx eo el es hk0 lo kp sb b2 b3 hsx hso
        obtain ⟨bl, ol, e0, c0, c1⟩ := LL.out.2.2.2.1 0 (by omega)
        obtain ⟨bl9, ol9, e1, d0, d1⟩ := LL.out.2.2.2.1 fm (by omega)
        subst e0
        cases e1
        rw [levsTo_get _ _ _ _ _ _ _ (Nat.zero_le _), Nat.zero_mul, Nat.add_zero] at c0 c1
        rw [levsTo_get _ _ _ _ _ _ _ (Nat.le_refl _), ← hhN] at d0
        have c0' : k0.cell? ⟨bl, ol, none⟩ = some (.int .i64 u) := c0
        have c1' : k0.cell? ⟨bl, ol + 1, none⟩ = some (.bool r) := c1
        have b0 := BL.out.c0
        have b1 := BL.out.c1
        have hfI : (fm : Int) < (ln : Int) := by omega
        have h0I : (0 : Int) < (ln : Int) := by omega
        clear c0 c1 d1 hhN hb ll
        go_upto_region 13 with fail
        go_quiet ((first | (go_at_call 15; first | with_reducible exact Calls.quiet_of_same (SX.out _ ((New.refl _).drewN _)) | with_reducible exact Calls.quiet_of_same (SO.out _ ((New.refl _).drewN _)))))
        clear g1 g2 g3 g4 c0' c1' d0 b0 b1 hfI h0I
        obtain ⟨v1, hv1⟩ : ∃ W, W = k0.drewN nq := ⟨_, rfl⟩
        have M1 := Lib.hid (show New k0 v1 by rw [hv1]; exact (New.refl _).drewN _)
        rw [← hv1]
        clear hv1 SX SO
        go_wp2
        go_loopw [20, 186] (fun sm i wr => ∃ j : Nat, j ≤ fm ∧ i = .int .i64 (j : Int) ∧ sm = .int .i64 (spK a b c d u r xs j) ∧ New k0 wr) (fun _ i _ => fm - (intOf i).toNat)
        case atStart => exact ⟨0, Nat.zero_le _, rfl, rfl, M1.out⟩
        case round =>
          obtain ⟨j, hj, rfl, rfl, hnw⟩ := hrel
          have NW := Lib.hid hnw
          clear hnw
          by_cases hlt : j < fm
          · as_aux_lemma =>
            have jx : j < xs.length := by have := LX.out; omega
            have xb := XIN.out j jx
            have sj := stK_bd (r := r) OK.out UB.out.1 UB.out.2 XIN.out j (by omega)
            have sj1 := stK_bd (r := r) OK.out UB.out.1 UB.out.2 XIN.out (j + 1) (by omega)
            have ask : askB a b c d (stK a b c d u r xs j).1 (xs[j]?.getD 0) = true := askB_iff.2 ⟨⟨OK.out, sj⟩, xb⟩
            have lvb : levB a b c d (stK a b c d u r xs (j + 1)).1 = true := levB_iff.2 ⟨OK.out, sj1⟩
            have spb := spK_bd (r := r) OK.out UB.out.1 UB.out.2 XIN.out j (by omega)
            have tsb := tkS_bd a (stK a b c d u r xs j).1 (xs[j]?.getD 0) sj.2 xb.2
            have fl : outK a b c d u r xs j ≤ d := tk_flow OK.out.2.2.1
            have nrh : (stK a b c d u r xs (j + 1)).2 = true → b < (stK a b c d u r xs (j + 1)).1 := fun e => tk_runs e
            have TKC : ∀ W : World, Calls Try.prog 16 #[sipV a b c d, levV (stK a b c d u r xs j).1 (stK a b c d u r xs j).2, .int .i64 (xs[j]?.getD 0)] W fun e w' => e = .returned (.tuple #[levV (stK a b c d u r xs (j + 1)).1 (stK a b c d u r xs (j + 1)).2, .int .i64 (outK a b c d u r xs j), .int .i64 (tkS a (stK a b c d u r xs j).1 (xs[j]?.getD 0)), .bool true]) ∧ New W w' := by
              intro W
              have q := iTickSiphon_any W a b c d (stK a b c d u r xs j).1 (xs[j]?.getD 0) (stK a b c d u r xs j).2
              unfold tiH tiR tiO tiS at q
              rw [if_pos ask, if_pos ask, if_pos ask, if_pos ask, ask] at q
              exact q
            have ss : spK a b c d u r xs (j + 1) = spK a b c d u r xs j + tkS a (stK a b c d u r xs j).1 (xs[j]?.getD 0) := rfl
            obtain ⟨b2, o2, rfl, hc2, _⟩ := (IK.out.new NW.out).at hlt
            obtain ⟨bo, oo, rfl, hco, _⟩ := (OO.out).at hlt
            rw [outsTo_get _ _ _ _ _ _ _ hlt] at hco
            obtain ⟨bA, oA, eA, LCx0, LCx1⟩ := (LL.out.new NW.out).2.2.2.1 j (by have := LLN.out; omega)
            obtain ⟨bB, oB, eB, D0, D1⟩ := LL.out.2.2.2.1 (j + 1) (by have := LLN.out; omega)
            cases eA
            cases eB
            rw [levsTo_get _ _ _ _ _ _ _ (by omega)] at LCx0 LCx1 D0 D1
            obtain ⟨x, hx⟩ : ∃ x, x = xs[j]?.getD 0 := ⟨_, rfl⟩
            obtain ⟨hj1, hhj⟩ : ∃ x, x = (stK a b c d u r xs j).1 := ⟨_, rfl⟩
            obtain ⟨rj, hrj⟩ : ∃ x, x = (stK a b c d u r xs j).2 := ⟨_, rfl⟩
            obtain ⟨nh, hnh⟩ : ∃ x, x = (stK a b c d u r xs (j + 1)).1 := ⟨_, rfl⟩
            obtain ⟨nr, hnr⟩ : ∃ x, x = (stK a b c d u r xs (j + 1)).2 := ⟨_, rfl⟩
            obtain ⟨oj, hoj⟩ : ∃ x, x = outK a b c d u r xs j := ⟨_, rfl⟩
            rw [← hx] at hc2 TKC ss tsb
            rw [← hhj] at TKC LCx0 ss tsb
            rw [← hrj] at TKC LCx1
            rw [← hnh] at TKC D0 lvb nrh
            rw [← hnr] at TKC D1 nrh
            rw [← hoj] at TKC hco fl
            obtain ⟨vj, hvj⟩ : ∃ q, q = tkS a hj1 x := ⟨_, rfl⟩
            obtain ⟨sj9, hsj9⟩ : ∃ x, x = spK a b c d u r xs j := ⟨_, rfl⟩
            rw [← hvj] at TKC ss tsb
            rw [← hsj9] at ss spb ⊢
            have HTK := Lib.hid TKC
            have SS := Lib.hid ss
            have LVB := Lib.hid lvb
            have NRH := Lib.hid nrh
            have hltI : (j : Int) < fm := by omega
            have hltL : (j : Int) < (ln : Int) := by have := LLN.out; omega
            obtain ⟨j1, hj1e⟩ : ∃ k, k = j + 1 := ⟨_, rfl⟩
            have gk : IntKind.i64.wrap ((j : Int) + 1) = (j1 : Int) := by rw [i64_in _ (by omega)]; omega
            have gs : IntKind.i64.wrap (sj9 + vj) = sj9 + vj := i64_in _ (by omega)
            rw [← hj1e] at D0 D1 SS
            have HJ1 := Lib.hid hj1e
            have CO := Lib.hid hco
            have DD := Lib.hid (And.intro D0 D1)
            have BSx0 := (BS.out.new NW.out).c0
            have BSx1 := (BS.out.new NW.out).c1
            have BSx2 := (BS.out.new NW.out).c2
            have BSx3 := (BS.out.new NW.out).c3
            have zB : B5 < wr.heap.size := (BS.out.new NW.out).lt
            have zL : bl < wr.heap.size := by have q := World.block_lt_of_cell? _ _ LCx0; simpa using q
            clear jx xb sj sj1 ask lvb spb tsb nrh TKC ss hx hhj hrj hnh hnr hoj hvj hsj9 hj1e hco D0 D1
            go_upto_region 19 with fail
            clear hc2 gk gs hltI
            go_cut [23,24,25,26] from 191 to 202 (fun p q0 q1 q2 W => CutBox wr (.int .i64 nh) (.bool nr) p W ∧ q0 = .int .i64 oj ∧ q1 = .int .i64 vj ∧ q2 = .bool true)
            case first =>
              go_region_held3 (fun w' => w'.cell? ⟨B5, 0, none⟩ = some (.int .i64 a) ∧ w'.cell? ⟨B5, 1, none⟩ = some (.int .i64 b) ∧ w'.cell? ⟨B5, 2, none⟩ = some (.int .i64 c) ∧ w'.cell? ⟨B5, 3, none⟩ = some (.int .i64 d) ∧ w'.cell? ⟨bl, ol + j * 2, none⟩ = some (.int .i64 hj1) ∧ w'.cell? ⟨bl, ol + j * 2 + 1, none⟩ = some (.bool rj))
                (first | exact ⟨BSx0, BSx1, BSx2, BSx3, LCx0, LCx1⟩ | exact ⟨World.cell_kept BSx0, World.cell_kept BSx1, World.cell_kept BSx2, World.cell_kept BSx3, World.cell_kept LCx0, World.cell_kept LCx1⟩ | exact ⟨BSx0_s, BSx1_s, BSx2_s, BSx3_s, LCx0_s, LCx1_s⟩ | exact ⟨World.cell_kept BSx0_s, World.cell_kept BSx1_s, World.cell_kept BSx2_s, World.cell_kept BSx3_s, World.cell_kept LCx0_s, World.cell_kept LCx1_s⟩ | exact ⟨World.cell_set (World.cell_set BSx0_s (by simp; try omega)) (by simp; try omega), World.cell_set (World.cell_set BSx1_s (by simp; try omega)) (by simp; try omega), World.cell_set (World.cell_set BSx2_s (by simp; try omega)) (by simp; try omega), World.cell_set (World.cell_set BSx3_s (by simp; try omega)) (by simp; try omega), World.cell_set (World.cell_set LCx0_s (by simp; try omega)) (by simp; try omega), World.cell_set (World.cell_set LCx1_s (by simp; try omega)) (by simp; try omega)⟩ | fail)
                (first | (go_at_call 16; refine (HTK.out _).mono ?_; rintro e s9 ⟨rfl, n_s⟩; (try replace n_s := New.undrew n_s); have BSx0_s : s9.cell? ⟨B5, 0, none⟩ = some (.int .i64 a) := n_s.cell (by first | exact BSx0 | exact World.cell_kept BSx0); have BSx1_s : s9.cell? ⟨B5, 1, none⟩ = some (.int .i64 b) := n_s.cell (by first | exact BSx1 | exact World.cell_kept BSx1); have BSx2_s : s9.cell? ⟨B5, 2, none⟩ = some (.int .i64 c) := n_s.cell (by first | exact BSx2 | exact World.cell_kept BSx2); have BSx3_s : s9.cell? ⟨B5, 3, none⟩ = some (.int .i64 d) := n_s.cell (by first | exact BSx3 | exact World.cell_kept BSx3); have LCx0_s : s9.cell? ⟨bl, ol + j * 2, none⟩ = some (.int .i64 hj1) := n_s.cell (by first | exact LCx0 | exact World.cell_kept LCx0); have LCx1_s : s9.cell? ⟨bl, ol + j * 2 + 1, none⟩ = some (.bool rj) := n_s.cell (by first | exact LCx1 | exact World.cell_kept LCx1); have e_s := n_s.size; (try simp only [World.size_alloc] at e_s); (try (have kk := New.box n_s; obtain ⟨j0, j1', j2, j3, j4⟩ := kk)); (try (have kk := New.boxed n_s j0 j1' j2 j3; clear j0 j1' j2 j3; obtain ⟨j0, j1', j2, j3⟩ := kk)); skip))
              all_goals (go_wp2_with fail; go_meet)
              all_goals
                have m0 : New wr s9 := by first | exact n_s | exact ((New.refl _).alloc _).trans n_s
                have y0 := n_s.size
                (try simp only [World.size_alloc] at y0)
                refine ⟨?_, rfl, rfl, rfl⟩
                first
                  | exact CutBox.behind m0
                  | exact CutBox.put m0 (by omega) (by omega) j0 j1'
            case rest =>
            obtain ⟨⟨BN, rfl, hn9, hlo, hhi, hc0, hc1⟩, rfl, rfl, rfl⟩ := hcut
            obtain ⟨w3, hw3⟩ : ∃ W, W = wc := ⟨_, rfl⟩
            rw [← hw3] at hn9 hhi hc0 hc1 ⊢
            have M3 := Lib.hid (NW.out.trans hn9)
            clear hw3 hn9 hlo hhi LCx0 LCx1 BSx0 BSx1 BSx2 BSx3 HTK
            have y0 := (BS.out.new M3.out).c0
            have y1 := (BS.out.new M3.out).c1
            have y2 := (BS.out.new M3.out).c2
            have y3 := (BS.out.new M3.out).c3
            go_wp2_with fail
            refine (iIsSiphonLevel_any _ a b c d nh nr).mono ?_
            rintro e w4 ⟨rfl, n4⟩
            have M4 := Lib.hid (M3.out.trans n4)
            have e0 := n4.cell hc0
            have e1 := n4.cell hc1
            clear y0 y1 y2 y3 hc0 hc1 n4
            rw [LVB.out, sipB_iff.2 OK.out]
            have y1 := (BS.out.new M4.out).c1
            have y3 := (BS.out.new M4.out).c3
            have co := M4.out.cell CO.out
            have d0 := M4.out.cell DD.out.1
            have d1 := M4.out.cell DD.out.2
            have gk : IntKind.i64.wrap ((j : Int) + 1) = (j1 : Int) := by rw [i64_in _ (by omega)]; have := HJ1.out; omega
            have hj1L : (j1 : Int) < (ln : Int) := by have := HJ1.out; have := LLN.out; omega
            have hltI : (j : Int) < fm := by omega
            have flx : ¬ d < oj := by omega
            have gs : IntKind.i64.wrap (sj9 + vj) = spK a b c d u r xs j1 := by rw [SS.out]; exact i64_in _ (by have q := spK_bd (r := r) OK.out UB.out.1 UB.out.2 XIN.out j1 (by have := HJ1.out; have := LX.out; omega); rw [SS.out] at q; have := HJ1.out; omega)
            have NH := Lib.hid NRH.out
            clear fl NRH
            cases nr with
            | true =>
              as_aux_lemma =>
              have nb : ¬ nh ≤ b := by have := NH.out rfl; omega
              go_upto_region 21 with fail
              go_quiet (fail)
              go_wp2
              go_roundw
              case rel => exact ⟨j1, by have := HJ1.out; omega, rfl, rfl, M4.out.drewN _⟩
              case measure => simp [intOf]; have := HJ1.out; omega
            | false =>
              as_aux_lemma =>
              go_upto_region 21 with fail
              go_quiet (fail)
              go_wp2
              go_roundw
              case rel => exact ⟨j1, by have := HJ1.out; omega, rfl, rfl, M4.out.drewN _⟩
              case measure => simp [intOf]; have := HJ1.out; omega
          · obtain rfl : fm = j := by omega
            rw [← ESP.out]
            go_wp2_with fail
            go_meet
            exact HK0.out ▸ NW.out
    case rest =>
    obtain ⟨u0, hu0⟩ : ∃ W, W = wc := ⟨_, rfl⟩
    rw [← hu0] at hcut ⊢
    have NN_u0 := Lib.hid (NN_u7.out.trans hcut)
    clear hu0 hcut NN_u7 BS_u7 BL_u7 IX_u7 IO_u7 LV_u7 HA Hsp
    as_aux_lemma =>
    go_wp2_with fail
    refine (drawTickSiphon_any _ bo m dap (H2.out.new NN_u0.out)).mono ?_
    rintro e w1 ⟨a, b, c, d, u, r, x, rfl, hw⟩
    have NN := Lib.hid (NN_u0.out.trans hw)
    clear hw NN_u0
    go_upto_region 28 with fail
    obtain ⟨B5, hB5⟩ : ∃ B, B = w1.heap.size := ⟨_, rfl⟩
    have HB5 := Lib.hid hB5
    clear hB5
    obtain ⟨w0, hw0⟩ : ∃ W, W = (w1.alloc (.cells #[.int .i64 a, .int .i64 b, .int .i64 c, .int .i64 d] 25)).alloc (.cells #[.int .i64 u, .bool r] 27) := ⟨_, rfl⟩
    have n0 : New w1 w0 := by rw [hw0]; exact ((New.refl _).alloc _).alloc _
    have BS_w0 := Lib.hid (show Bx4 w0 B5 a b c d by rw [hw0]; exact (Bx4.fresh w1 a b c d _ HB5.out.symm).new ((New.refl _).alloc _))
    have BL_w0 := Lib.hid (show Bx2 w0 (B5 + 1) u r by rw [hw0]; exact Bx2.fresh _ u r _ (by have := HB5.out; simp; omega))
    have NN_w0 := Lib.hid (NN.out.trans n0)
    have hs : w1.heap.size = B5 := HB5.out.symm
    rw [← hw0]
    try rw [hs]
    clear hw0 n0 NN hs HB5
    have BSx0 := BS_w0.out.c0
    have BSx1 := BS_w0.out.c1
    have BSx2 := BS_w0.out.c2
    have BSx3 := BS_w0.out.c3
    have BLx0 := BL_w0.out.c0
    have BLx1 := BL_w0.out.c1
    go_wp2_with fail
    clear BSx0 BSx1 BSx2 BSx3 BLx0 BLx1
    refine (iTickSiphon_any _ a b c d u x r).mono ?_
    rintro e y8 ⟨rfl, n_y8⟩
    have BS_y8 := Lib.hid (BS_w0.out.new n_y8)
    have BL_y8 := Lib.hid (BL_w0.out.new n_y8)
    have NN_y8 := Lib.hid (NN_w0.out.trans n_y8)
    clear n_y8 NN_w0 BS_w0 BL_w0
    obtain ⟨th, hth⟩ : ∃ T, T = tiH a b c d u x r := ⟨_, rfl⟩
    rw [← hth]
    have Hth := Lib.hid hth
    clear hth
    obtain ⟨tr, htr⟩ : ∃ T, T = tiR a b c d u x r := ⟨_, rfl⟩
    rw [← htr]
    have Htr := Lib.hid htr
    clear htr
    obtain ⟨to9, hto9⟩ : ∃ T, T = tiO a b c d u x r := ⟨_, rfl⟩
    rw [← hto9]
    have Hto9 := Lib.hid hto9
    clear hto9
    obtain ⟨ts, hts⟩ : ∃ T, T = tiS a b c d u x := ⟨_, rfl⟩
    rw [← hts]
    have Hts := Lib.hid hts
    clear hts
    obtain ⟨AK, hAK⟩ : ∃ T, T = askB a b c d u x := ⟨_, rfl⟩
    rw [← hAK]
    have HAK := Lib.hid hAK
    clear hAK
    go_upto_region 29 with fail
    obtain ⟨B32, hB⟩ : ∃ B, B = y8.heap.size := ⟨_, rfl⟩
    have HB32 := Lib.hid hB
    clear hB
    obtain ⟨t1, ht1⟩ : ∃ W, W = y8.alloc (.cells #[.int .i64 th, .bool tr] 27) := ⟨_, rfl⟩
    have n_t1 : New y8 t1 := by rw [ht1]; exact (New.refl _).alloc _
    have BN_t1 := Lib.hid (show Bx2 t1 B32 th tr by rw [ht1]; exact Bx2.fresh _ th tr _ HB32.out.symm)
    have BS_t1 := Lib.hid (BS_y8.out.new n_t1)
    have BL_t1 := Lib.hid (BL_y8.out.new n_t1)
    have NN_t1 := Lib.hid (NN_y8.out.trans n_t1)
    have hs : y8.heap.size = B32 := HB32.out.symm
    rw [← ht1]
    try rw [hs]
    clear ht1 n_t1 hs HB32 BS_y8 BL_y8 NN_y8
    have BSx0 := BS_t1.out.c0
    have BSx1 := BS_t1.out.c1
    have BSx2 := BS_t1.out.c2
    have BSx3 := BS_t1.out.c3
    have BLx0 := BL_t1.out.c0
    have BLx1 := BL_t1.out.c1
    go_wp2_with fail
    clear BSx0 BSx1 BSx2 BSx3 BLx0 BLx1
    refine (sTickSiphon_any _ a b c d u x r).mono ?_
    rintro e y9 ⟨rfl, n_y9⟩
    have BS_y9 := Lib.hid (BS_t1.out.new n_y9)
    have BL_y9 := Lib.hid (BL_t1.out.new n_y9)
    have BN_y9 := Lib.hid (BN_t1.out.new n_y9)
    have NN_y9 := Lib.hid (NN_t1.out.trans n_y9)
    clear n_y9 NN_t1 BS_t1 BL_t1 BN_t1
    rw [← Hth.out, ← Htr.out, ← Hto9.out, ← Hts.out, ← HAK.out]
    go_upto_region 30 with fail
    obtain ⟨B36, hB⟩ : ∃ B, B = y9.heap.size := ⟨_, rfl⟩
    have HB36 := Lib.hid hB
    clear hB
    obtain ⟨t2, ht1⟩ : ∃ W, W = y9.alloc (.cells #[.int .i64 th, .bool tr] 27) := ⟨_, rfl⟩
    have n_t1 : New y9 t2 := by rw [ht1]; exact (New.refl _).alloc _
    have BM_t2 := Lib.hid (show Bx2 t2 B36 th tr by rw [ht1]; exact Bx2.fresh _ th tr _ HB36.out.symm)
    have BN_t2 := Lib.hid (BN_y9.out.new n_t1)
    have NN_t2 := Lib.hid (NN_y9.out.trans n_t1)
    have hs : y9.heap.size = B36 := HB36.out.symm
    rw [← ht1]
    try rw [hs]
    clear ht1 n_t1 hs HB36 BS_y9 BL_y9 NN_y9 BN_y9 Hth Htr Hto9 Hts HAK
    go_wp2_with fail
    refine (drawIsSiphonLevel_any _ bo m dap (H2.out.new NN_t2.out)).mono ?_
    rintro e w1' ⟨a2, b2, c2, d2, u2, r2, rfl, hw⟩
    have NN3 := Lib.hid (NN_t2.out.trans hw)
    have BM3 := Lib.hid (BM_t2.out.new hw)
    have BN3 := Lib.hid (BN_t2.out.new hw)
    clear hw NN_t2 BM_t2 BN_t2
    go_upto_region 31 with fail
    obtain ⟨B40, hB5⟩ : ∃ B, B = w1'.heap.size := ⟨_, rfl⟩
    have HB5 := Lib.hid hB5
    clear hB5
    obtain ⟨q0, hw0⟩ : ∃ W, W = (w1'.alloc (.cells #[.int .i64 a2, .int .i64 b2, .int .i64 c2, .int .i64 d2] 25)).alloc (.cells #[.int .i64 u2, .bool r2] 27) := ⟨_, rfl⟩
    have n0 : New w1' q0 := by rw [hw0]; exact ((New.refl _).alloc _).alloc _
    have BS_q0 := Lib.hid (show Bx4 q0 B40 a2 b2 c2 d2 by rw [hw0]; exact (Bx4.fresh w1' a2 b2 c2 d2 _ HB5.out.symm).new ((New.refl _).alloc _))
    have BL_q0 := Lib.hid (show Bx2 q0 (B40 + 1) u2 r2 by rw [hw0]; exact Bx2.fresh _ u2 r2 _ (by have := HB5.out; simp; omega))
    have NN_q0 := Lib.hid (NN3.out.trans n0)
    have BM_q0 := Lib.hid (BM3.out.new n0)
    have BN_q0 := Lib.hid (BN3.out.new n0)
    have hs : w1'.heap.size = B40 := HB5.out.symm
    rw [← hw0]
    try rw [hs]
    clear hw0 n0 NN3 BM3 BN3 hs HB5
    have BSx0 := BS_q0.out.c0
    have BSx1 := BS_q0.out.c1
    have BSx2 := BS_q0.out.c2
    have BSx3 := BS_q0.out.c3
    have BLx0 := BL_q0.out.c0
    have BLx1 := BL_q0.out.c1
    go_wp2_with fail
    clear BSx0 BSx1 BSx2 BSx3 BLx0 BLx1
    refine (iIsSiphonLevel_any _ a2 b2 c2 d2 u2 r2).mono ?_
    rintro e o10 ⟨rfl, n_o10⟩
    have BS_o10 := Lib.hid (BS_q0.out.new n_o10)
    have BL_o10 := Lib.hid (BL_q0.out.new n_o10)
    have BN_o10 := Lib.hid (BN_q0.out.new n_o10)
    have BM_o10 := Lib.hid (BM_q0.out.new n_o10)
    have NN_o10 := Lib.hid (NN_q0.out.trans n_o10)
    clear n_o10 NN_q0 BS_q0 BL_q0 BN_q0 BM_q0
    obtain ⟨LB, hLB⟩ : ∃ T, T = levB a2 b2 c2 d2 u2 := ⟨_, rfl⟩
    rw [← hLB]
    have HLB := Lib.hid hLB
    clear hLB
    obtain ⟨SB, hSB⟩ : ∃ T, T = sipB a2 b2 c2 d2 := ⟨_, rfl⟩
    rw [← hSB]
    have HSB := Lib.hid hSB
    clear hSB
    have BSx0 := BS_o10.out.c0
    have BSx1 := BS_o10.out.c1
    have BSx2 := BS_o10.out.c2
    have BSx3 := BS_o10.out.c3
    have BLx0 := BL_o10.out.c0
    have BLx1 := BL_o10.out.c1
    go_wp2_with fail
    clear BSx0 BSx1 BSx2 BSx3 BLx0 BLx1
    refine (sIsSiphonLevel_any _ a2 b2 c2 d2 u2 r2).mono ?_
    rintro e o11 ⟨rfl, n_o11⟩
    have BS_o11 := Lib.hid (BS_o10.out.new n_o11)
    have BL_o11 := Lib.hid (BL_o10.out.new n_o11)
    have BN_o11 := Lib.hid (BN_o10.out.new n_o11)
    have BM_o11 := Lib.hid (BM_o10.out.new n_o11)
    have NN_o11 := Lib.hid (NN_o10.out.trans n_o11)
    clear n_o11 NN_o10 BS_o10 BL_o10 BN_o10 BM_o10
    rw [← HLB.out, ← HSB.out]
    have BSx0 := BS_o11.out.c0
    have BSx1 := BS_o11.out.c1
    have BSx2 := BS_o11.out.c2
    have BSx3 := BS_o11.out.c3
    have BLx0 := BL_o11.out.c0
    have BLx1 := BL_o11.out.c1
    go_wp2_with fail
    clear BSx0 BSx1 BSx2 BSx3 BLx0 BLx1
    refine (iCapacityOf_any _ a2 b2 c2 d2).mono ?_
    rintro e o12 ⟨rfl, n_o12⟩
    have BS_o12 := Lib.hid (BS_o11.out.new n_o12)
    have BL_o12 := Lib.hid (BL_o11.out.new n_o12)
    have BN_o12 := Lib.hid (BN_o11.out.new n_o12)
    have BM_o12 := Lib.hid (BM_o11.out.new n_o12)
    have NN_o12 := Lib.hid (NN_o11.out.trans n_o12)
    clear n_o12 NN_o11 BS_o11 BL_o11 BN_o11 BM_o11
    obtain ⟨cp, hcp⟩ : ∃ T, T = capM a2 b2 c2 d2 := ⟨_, rfl⟩
    rw [← hcp]
    have Hcp := Lib.hid hcp
    clear hcp
    rw [← HSB.out]
    have BSx0 := BS_o12.out.c0
    have BSx1 := BS_o12.out.c1
    have BSx2 := BS_o12.out.c2
    have BSx3 := BS_o12.out.c3
    have BLx0 := BL_o12.out.c0
    have BLx1 := BL_o12.out.c1
    go_wp2_with fail
    clear BSx0 BSx1 BSx2 BSx3 BLx0 BLx1
    refine (sCapacityOf_any _ a2 b2 c2 d2).mono ?_
    rintro e o13 ⟨rfl, n_o13⟩
    have BS_o13 := Lib.hid (BS_o12.out.new n_o13)
    have BL_o13 := Lib.hid (BL_o12.out.new n_o13)
    have BN_o13 := Lib.hid (BN_o12.out.new n_o13)
    have BM_o13 := Lib.hid (BM_o12.out.new n_o13)
    have NN_o13 := Lib.hid (NN_o12.out.trans n_o13)
    clear n_o13 NN_o12 BS_o12 BL_o12 BN_o12 BM_o12
    rw [← Hcp.out, ← HSB.out]
    go_upto_region 35 with fail
    go_cut [366] from 311 to 366 (fun v W => v = .bool false ∧ New o13 W)
    case first =>
      as_aux_lemma =>
      have SBR := Lib.hid (fun W => (iIsSiphon_any W a2 b2 c2 d2))
      have SBS := Lib.hid (fun W => (sIsSiphon_any W a2 b2 c2 d2))
      rw [← HSB.out] at SBR SBS
      have x0 := BS_o13.out.c0
      have x1 := BS_o13.out.c1
      have x2 := BS_o13.out.c2
      have x3 := BS_o13.out.c3
      have n0 := BN_o13.out.c0
      have n1 := BN_o13.out.c1
      have m0 := BM_o13.out.c0
      have m1 := BM_o13.out.c1
      have nV : New o13 o13 := New.refl _
      refine wp_region_held_drew (S := fun w' => w'.cell? ⟨B40, 0, none⟩ = some (.int .i64 a2) ∧ w'.cell? ⟨B40, 1, none⟩ = some (.int .i64 b2) ∧ w'.cell? ⟨B40, 2, none⟩ = some (.int .i64 c2) ∧ w'.cell? ⟨B40, 3, none⟩ = some (.int .i64 d2) ∧ w'.cell? ⟨B32, 0, none⟩ = some (.int .i64 th) ∧ w'.cell? ⟨B32, 1, none⟩ = some (.bool tr) ∧ w'.cell? ⟨B36, 0, none⟩ = some (.int .i64 th) ∧ w'.cell? ⟨B36, 1, none⟩ = some (.bool tr)) (by kernel_rfl) ⟨x0, x1, x2, x3, n0, n1, m0, m1⟩ (fun hHeld => ?_)
      obtain ⟨y0, hy0⟩ : ∃ y, y = o13.drew := ⟨_, rfl⟩
      have m00 : New o13 y0 := by rw [hy0]; exact (New.refl _).drew
      rw [← hy0] at hHeld ⊢
      clear hy0 x0 x1 x2 x3 n0 n1 m0 m1 nV
      refine wpAnyH_take (i := 0) (oi := ⟨some 311, _, _, _, _, _⟩) (v := ?_) rfl (by kernel_rfl) (by kernel_rfl) (by kernel_rfl) (fun _ _ _ h => h) (Or.inl ⟨by rfl, ?_⟩) hHeld ?_; rotate_left; (· (intro w_ hSw; (try dsimp only at hSw); (try go_split_ands); go_simp; (try with_reducible rfl))); (try simp only [Act.put, List.setIfInBounds_toArray, List.set_cons_zero, List.set_cons_succ])
      refine wpAnyH_take (i := 1) (oi := ⟨some 312, _, _, _, _, _⟩) (v := ?_) rfl (by kernel_rfl) (by kernel_rfl) (by kernel_rfl) (fun _ _ _ h => h) (Or.inl ⟨by rfl, ?_⟩) hHeld ?_; rotate_left; (· (intro w_ hSw; (try dsimp only at hSw); (try go_split_ands); go_simp; (try with_reducible rfl))); (try simp only [Act.put, List.setIfInBounds_toArray, List.set_cons_zero, List.set_cons_succ])
      refine wpAnyH_take (i := 2) (oi := ⟨some 313, _, _, _, _, _⟩) (v := ?_) rfl (by kernel_rfl) (by kernel_rfl) (by kernel_rfl) (fun _ _ _ h => h) (Or.inl ⟨by rfl, ?_⟩) hHeld ?_; rotate_left; (· (intro w_ hSw; (try dsimp only at hSw); (try go_split_ands); go_simp; (try with_reducible rfl))); (try simp only [Act.put, List.setIfInBounds_toArray, List.set_cons_zero, List.set_cons_succ])
      refine wpAnyH_take (i := 3) (oi := ⟨some 314, _, _, _, _, _⟩) (v := ?_) rfl (by kernel_rfl) (by kernel_rfl) (by kernel_rfl) (fun _ _ _ h => h) (Or.inl ⟨by rfl, ?_⟩) hHeld ?_; rotate_left; (· (intro w_ hSw; (try dsimp only at hSw); (try go_split_ands); go_simp; (try with_reducible rfl))); (try simp only [Act.put, List.setIfInBounds_toArray, List.set_cons_zero, List.set_cons_succ])
      refine wpAnyH_take (i := 4) (oi := ⟨some 315, _, _, _, _, _⟩) (v := ?_) rfl (by kernel_rfl) (by kernel_rfl) (by kernel_rfl) (fun _ _ _ h => h) (Or.inl ⟨by rfl, ?_⟩) hHeld ?_; rotate_left; (· (intro w_ hSw; (try dsimp only at hSw); (try go_split_ands); go_simp; (try with_reducible rfl))); (try simp only [Act.put, List.setIfInBounds_toArray, List.set_cons_zero, List.set_cons_succ])
      refine wpAnyH_take (i := 5) (oi := ⟨some 316, _, _, _, _, _⟩) (v := ?_) rfl (by kernel_rfl) (by kernel_rfl) (by kernel_rfl) (fun _ _ _ h => h) (Or.inl ⟨by rfl, ?_⟩) hHeld ?_; rotate_left; (· (intro w_ hSw; (try dsimp only at hSw); (try go_split_ands); go_simp; (try with_reducible rfl))); (try simp only [Act.put, List.setIfInBounds_toArray, List.set_cons_zero, List.set_cons_succ])
      refine wpAnyH_take (i := 6) (oi := ⟨some 317, _, _, _, _, _⟩) (v := ?_) rfl (by kernel_rfl) (by kernel_rfl) (by kernel_rfl) (fun _ _ _ h => h) (Or.inl ⟨by rfl, ?_⟩) hHeld ?_; rotate_left; (· (intro w_ hSw; (try dsimp only at hSw); (try go_split_ands); go_simp; (try with_reducible rfl))); (try simp only [Act.put, List.setIfInBounds_toArray, List.set_cons_zero, List.set_cons_succ])
      refine wpAnyH_take (i := 7) (oi := ⟨some 318, _, _, _, _, _⟩) (v := ?_) rfl (by kernel_rfl) (by kernel_rfl) (by kernel_rfl) (fun _ _ _ h => h) (Or.inl ⟨by rfl, ?_⟩) hHeld ?_; rotate_left; (· (intro w_ hSw; (try dsimp only at hSw); (try go_split_ands); go_simp; (try with_reducible rfl))); (try simp only [Act.put, List.setIfInBounds_toArray, List.set_cons_zero, List.set_cons_succ])
      refine wpAnyH_take (i := 8) (oi := ⟨some 319, _, _, _, _, _⟩) (v := ?_) rfl (by kernel_rfl) (by kernel_rfl) (by kernel_rfl) (fun _ _ _ h => h) (Or.inl ⟨by rfl, ?_⟩) hHeld ?_; rotate_left; (· (intro w_ hSw; (try dsimp only at hSw); (try go_split_ands); go_simp; (try with_reducible rfl))); (try simp only [Act.put, List.setIfInBounds_toArray, List.set_cons_zero, List.set_cons_succ])
      refine wpAnyH_take (i := 9) (oi := ⟨some 320, _, _, _, _, _⟩) (v := ?_) rfl (by kernel_rfl) (by kernel_rfl) (by kernel_rfl) (fun _ _ _ h => h) (Or.inl ⟨by rfl, ?_⟩) hHeld ?_; rotate_left; (· (intro w_ hSw; (try dsimp only at hSw); (try go_split_ands); go_simp; (try with_reducible rfl))); (try simp only [Act.put, List.setIfInBounds_toArray, List.set_cons_zero, List.set_cons_succ])
      refine wpAnyH_take (i := 10) (oi := ⟨some 321, _, _, _, _, _⟩) (v := ?_) rfl (by kernel_rfl) (by kernel_rfl) (by kernel_rfl) (fun _ _ _ h => h) (Or.inl ⟨by rfl, ?_⟩) hHeld ?_; rotate_left; (· (intro w_ hSw; (try dsimp only at hSw); (try go_split_ands); go_simp; (try with_reducible rfl))); (try simp only [Act.put, List.setIfInBounds_toArray, List.set_cons_zero, List.set_cons_succ])
      refine wpAnyH_take (i := 11) (oi := ⟨some 322, _, _, _, _, _⟩) (v := ?_) rfl (by kernel_rfl) (by kernel_rfl) (by kernel_rfl) (fun _ _ _ h => h) (Or.inl ⟨by rfl, ?_⟩) hHeld ?_; rotate_left; (· (intro w_ hSw; (try dsimp only at hSw); (try go_split_ands); go_simp; (try with_reducible rfl))); (try simp only [Act.put, List.setIfInBounds_toArray, List.set_cons_zero, List.set_cons_succ])
      refine wpAnyH_take (i := 12) (oi := ⟨some 323, _, _, _, _, _⟩) (v := ?_) rfl (by kernel_rfl) (by kernel_rfl) (by kernel_rfl) (fun _ _ _ h => h) (Or.inl ⟨by rfl, ?_⟩) hHeld ?_; rotate_left; (· (intro w_ hSw; (try dsimp only at hSw); (try go_split_ands); go_simp; (try with_reducible rfl))); (try simp only [Act.put, List.setIfInBounds_toArray, List.set_cons_zero, List.set_cons_succ])
      refine wpAnyH_take (i := 13) (oi := ⟨some 324, _, _, _, _, _⟩) (v := ?_) rfl (by kernel_rfl) (by kernel_rfl) (by kernel_rfl) (fun _ _ _ h => h) (Or.inl ⟨by rfl, ?_⟩) hHeld ?_; rotate_left; (· (intro w_ hSw; (try dsimp only at hSw); (try go_split_ands); go_simp; (try with_reducible rfl))); (try simp only [Act.put, List.setIfInBounds_toArray, List.set_cons_zero, List.set_cons_succ])
      refine wpAnyH_take (i := 14) (oi := ⟨some 325, _, _, _, _, _⟩) (v := ?_) rfl (by kernel_rfl) (by kernel_rfl) (by kernel_rfl) (fun _ _ _ h => h) (Or.inl ⟨by rfl, ?_⟩) hHeld ?_; rotate_left; (· (intro w_ hSw; (try dsimp only at hSw); (try go_split_ands); go_simp; (try with_reducible rfl))); (try simp only [Act.put, List.setIfInBounds_toArray, List.set_cons_zero, List.set_cons_succ])
      refine wpAnyH_take (i := 15) (oi := ⟨some 326, _, _, _, _, _⟩) (v := ?_) rfl (by kernel_rfl) (by kernel_rfl) (by kernel_rfl) (fun _ _ _ h => h) (Or.inl ⟨by rfl, ?_⟩) hHeld ?_; rotate_left; (· (intro w_ hSw; (try dsimp only at hSw); (try go_split_ands); go_simp; (try with_reducible rfl))); (try simp only [Act.put, List.setIfInBounds_toArray, List.set_cons_zero, List.set_cons_succ])
      refine wpAnyH_take (i := 16) (oi := ⟨some 327, _, _, _, _, _⟩) (v := ?_) rfl (by kernel_rfl) (by kernel_rfl) (by kernel_rfl) (fun _ _ _ h => h) (Or.inl ⟨by rfl, ?_⟩) hHeld ?_; rotate_left; (· (intro w_ hSw; (try dsimp only at hSw); (try go_split_ands); go_simp; (try with_reducible rfl))); (try simp only [Act.put, List.setIfInBounds_toArray, List.set_cons_zero, List.set_cons_succ])
      refine wpAnyH_take (i := 17) (oi := ⟨some 328, _, _, _, _, _⟩) (v := ?_) rfl (by kernel_rfl) (by kernel_rfl) (by kernel_rfl) (fun _ _ _ h => h) (Or.inl ⟨by rfl, ?_⟩) hHeld ?_; rotate_left; (· (intro w_ hSw; (try dsimp only at hSw); (try go_split_ands); go_simp; (try with_reducible rfl))); (try simp only [Act.put, List.setIfInBounds_toArray, List.set_cons_zero, List.set_cons_succ])
      refine wpAnyH_take (i := 18) (oi := ⟨some 329, _, _, _, _, _⟩) (v := ?_) rfl (by kernel_rfl) (by kernel_rfl) (by kernel_rfl) (fun _ _ _ h => h) (Or.inl ⟨by rfl, ?_⟩) hHeld ?_; rotate_left; (· (intro w_ hSw; (try dsimp only at hSw); (try go_split_ands); go_simp; (try with_reducible rfl))); (try simp only [Act.put, List.setIfInBounds_toArray, List.set_cons_zero, List.set_cons_succ])
      refine wpAnyH_take (i := 19) (oi := ⟨some 330, _, _, _, _, _⟩) (v := ?_) rfl (by kernel_rfl) (by kernel_rfl) (by kernel_rfl) (fun _ _ _ h => h) (Or.inl ⟨by rfl, ?_⟩) hHeld ?_; rotate_left; (· (intro w_ hSw; (try dsimp only at hSw); (try go_split_ands); go_simp; (try with_reducible rfl))); (try simp only [Act.put, List.setIfInBounds_toArray, List.set_cons_zero, List.set_cons_succ])
      refine wpAnyH_take (i := 20) (oi := ⟨some 331, _, _, _, _, _⟩) (v := ?_) rfl (by kernel_rfl) (by kernel_rfl) (by kernel_rfl) (fun _ _ _ h => h) (Or.inl ⟨by rfl, ?_⟩) hHeld ?_; rotate_left; (· (intro w_ hSw; (try dsimp only at hSw); (try go_split_ands); go_simp; (try with_reducible rfl))); (try simp only [Act.put, List.setIfInBounds_toArray, List.set_cons_zero, List.set_cons_succ])
      refine wpAnyH_take (i := 21) (oi := ⟨some 332, _, _, _, _, _⟩) (v := ?_) rfl (by kernel_rfl) (by kernel_rfl) (by kernel_rfl) (fun _ _ _ h => h) (Or.inl ⟨by rfl, ?_⟩) hHeld ?_; rotate_left; (· (intro w_ hSw; (try dsimp only at hSw); (try go_split_ands); go_simp; (try with_reducible rfl))); (try simp only [Act.put, List.setIfInBounds_toArray, List.set_cons_zero, List.set_cons_succ])
      refine wpAnyH_take (i := 22) (oi := ⟨some 333, _, _, _, _, _⟩) (v := ?_) rfl (by kernel_rfl) (by kernel_rfl) (by kernel_rfl) (fun _ _ _ h => h) (Or.inl ⟨by rfl, ?_⟩) hHeld ?_; rotate_left; (· (intro w_ hSw; (try dsimp only at hSw); (try go_split_ands); go_simp; (try with_reducible rfl))); (try simp only [Act.put, List.setIfInBounds_toArray, List.set_cons_zero, List.set_cons_succ])
      refine wpAnyH_take (i := 23) (oi := ⟨some 334, _, _, _, _, _⟩) (v := ?_) rfl (by kernel_rfl) (by kernel_rfl) (by kernel_rfl) (fun _ _ _ h => h) (Or.inl ⟨by rfl, ?_⟩) hHeld ?_; rotate_left; (· (intro w_ hSw; (try dsimp only at hSw); (try go_split_ands); go_simp; (try with_reducible rfl))); (try simp only [Act.put, List.setIfInBounds_toArray, List.set_cons_zero, List.set_cons_succ])
      refine wpAnyH_take (i := 24) (oi := ⟨some 335, _, _, _, _, _⟩) (v := ?_) rfl (by kernel_rfl) (by kernel_rfl) (by kernel_rfl) (fun _ _ _ h => h) (Or.inl ⟨by rfl, ?_⟩) hHeld ?_; rotate_left; (· (intro w_ hSw; (try dsimp only at hSw); (try go_split_ands); go_simp; (try with_reducible rfl))); (try simp only [Act.put, List.setIfInBounds_toArray, List.set_cons_zero, List.set_cons_succ])
      refine wpAnyH_take (i := 25) (oi := ⟨some 336, _, _, _, _, _⟩) (v := ?_) rfl (by kernel_rfl) (by kernel_rfl) (by kernel_rfl) (fun _ _ _ h => h) (Or.inl ⟨by rfl, ?_⟩) hHeld ?_; rotate_left; (· (intro w_ hSw; (try dsimp only at hSw); (try go_split_ands); go_simp; (try with_reducible rfl))); (try simp only [Act.put, List.setIfInBounds_toArray, List.set_cons_zero, List.set_cons_succ])
      refine wpAnyH_take (i := 26) (oi := ⟨some 337, _, _, _, _, _⟩) (v := ?_) rfl (by kernel_rfl) (by kernel_rfl) (by kernel_rfl) (fun _ _ _ h => h) (Or.inl ⟨by rfl, ?_⟩) hHeld ?_; rotate_left; (· (intro w_ hSw; (try dsimp only at hSw); (try go_split_ands); go_simp; (try with_reducible rfl))); (try simp only [Act.put, List.setIfInBounds_toArray, List.set_cons_zero, List.set_cons_succ])
      refine wpAnyH_take (i := 27) (oi := ⟨some 338, _, _, _, _, _⟩) (v := ?_) rfl (by kernel_rfl) (by kernel_rfl) (by kernel_rfl) (fun _ _ _ h => h) (Or.inl ⟨by rfl, ?_⟩) hHeld ?_; rotate_left; (· (intro w_ hSw; (try dsimp only at hSw); (try go_split_ands); go_simp; (try with_reducible rfl))); (try simp only [Act.put, List.setIfInBounds_toArray, List.set_cons_zero, List.set_cons_succ])
      refine wpAnyH_take (i := 28) (oi := ⟨some 339, _, _, _, _, _⟩) (v := ?_) rfl (by kernel_rfl) (by kernel_rfl) (by kernel_rfl) (fun _ _ _ h => h) (Or.inl ⟨by rfl, ?_⟩) hHeld ?_; rotate_left; (· (intro w_ hSw; (try dsimp only at hSw); (try go_split_ands); go_simp; (try with_reducible rfl))); (try simp only [Act.put, List.setIfInBounds_toArray, List.set_cons_zero, List.set_cons_succ])
      refine wpAnyH_take (i := 29) (oi := ⟨some 340, _, _, _, _, _⟩) (v := ?_) rfl (by kernel_rfl) (by kernel_rfl) (by kernel_rfl) (fun _ _ _ h => h) (Or.inl ⟨by rfl, ?_⟩) hHeld ?_; rotate_left; (· (intro w_ hSw; (try dsimp only at hSw); (try go_split_ands); go_simp; (try with_reducible rfl))); (try simp only [Act.put, List.setIfInBounds_toArray, List.set_cons_zero, List.set_cons_succ])
      refine wpAnyH_take (i := 30) (oi := ⟨some 341, _, _, _, _, _⟩) (v := ?_) rfl (by kernel_rfl) (by kernel_rfl) (by kernel_rfl) (fun _ _ _ h => h) (Or.inl ⟨by rfl, ?_⟩) hHeld ?_; rotate_left; (· (intro w_ hSw; (try dsimp only at hSw); (try go_split_ands); go_simp; (try with_reducible rfl))); (try simp only [Act.put, List.setIfInBounds_toArray, List.set_cons_zero, List.set_cons_succ])
      refine wpAnyH_take (i := 31) (oi := ⟨some 342, _, _, _, _, _⟩) (v := ?_) rfl (by kernel_rfl) (by kernel_rfl) (by kernel_rfl) (fun _ _ _ h => h) (Or.inl ⟨by rfl, ?_⟩) hHeld ?_; rotate_left; (· (intro w_ hSw; (try dsimp only at hSw); (try go_split_ands); go_simp; (try with_reducible rfl))); (try simp only [Act.put, List.setIfInBounds_toArray, List.set_cons_zero, List.set_cons_succ])
      refine wpAnyH_take (i := 32) (oi := ⟨some 343, _, _, _, _, _⟩) (v := ?_) rfl (by kernel_rfl) (by kernel_rfl) (by kernel_rfl) (fun _ _ _ h => h) (Or.inl ⟨by rfl, ?_⟩) hHeld ?_; rotate_left; (· (intro w_ hSw; (try dsimp only at hSw); (try go_split_ands); go_simp; (try with_reducible rfl))); (try simp only [Act.put, List.setIfInBounds_toArray, List.set_cons_zero, List.set_cons_succ])
      refine wpAnyH_take (i := 33) (oi := ⟨some 344, _, _, _, _, _⟩) (v := ?_) rfl (by kernel_rfl) (by kernel_rfl) (by kernel_rfl) (fun _ _ _ h => h) (Or.inl ⟨by rfl, ?_⟩) hHeld ?_; rotate_left; (· (intro w_ hSw; (try dsimp only at hSw); (try go_split_ands); go_simp; (try with_reducible rfl))); (try simp only [Act.put, List.setIfInBounds_toArray, List.set_cons_zero, List.set_cons_succ])
      refine wpAnyH_take (i := 34) (oi := ⟨some 345, _, _, _, _, _⟩) (v := ?_) rfl (by kernel_rfl) (by kernel_rfl) (by kernel_rfl) (fun _ _ _ h => h) (Or.inl ⟨by rfl, ?_⟩) hHeld ?_; rotate_left; (· (intro w_ hSw; (try dsimp only at hSw); (try go_split_ands); go_simp; (try with_reducible rfl))); (try simp only [Act.put, List.setIfInBounds_toArray, List.set_cons_zero, List.set_cons_succ])
      refine wpAnyH_take (i := 35) (oi := ⟨some 346, _, _, _, _, _⟩) (v := ?_) rfl (by kernel_rfl) (by kernel_rfl) (by kernel_rfl) (fun _ _ _ h => h) (Or.inl ⟨by rfl, ?_⟩) hHeld ?_; rotate_left; (· (intro w_ hSw; (try dsimp only at hSw); (try go_split_ands); go_simp; (try with_reducible rfl))); (try simp only [Act.put, List.setIfInBounds_toArray, List.set_cons_zero, List.set_cons_succ])
      refine wpAnyH_take (i := 36) (oi := ⟨some 347, _, _, _, _, _⟩) (v := ?_) rfl (by kernel_rfl) (by kernel_rfl) (by kernel_rfl) (fun _ _ _ h => h) (Or.inl ⟨by rfl, ?_⟩) hHeld ?_; rotate_left; (· (intro w_ hSw; (try dsimp only at hSw); (try go_split_ands); go_simp; (try with_reducible rfl))); (try simp only [Act.put, List.setIfInBounds_toArray, List.set_cons_zero, List.set_cons_succ])
      refine wpAnyH_take (i := 37) (oi := ⟨some 348, _, _, _, _, _⟩) (v := ?_) rfl (by kernel_rfl) (by kernel_rfl) (by kernel_rfl) (fun _ _ _ h => h) (Or.inl ⟨by rfl, ?_⟩) hHeld ?_; rotate_left; (· (intro w_ hSw; (try dsimp only at hSw); (try go_split_ands); go_simp; (try with_reducible rfl))); (try simp only [Act.put, List.setIfInBounds_toArray, List.set_cons_zero, List.set_cons_succ])
      refine wpAnyH_take (i := 38) (oi := ⟨some 349, _, _, _, _, _⟩) (v := ?_) rfl (by kernel_rfl) (by kernel_rfl) (by kernel_rfl) (fun _ _ _ h => h) (Or.inl ⟨by rfl, ?_⟩) hHeld ?_; rotate_left; (· (intro w_ hSw; (try dsimp only at hSw); (try go_split_ands); go_simp; (try with_reducible rfl))); (try simp only [Act.put, List.setIfInBounds_toArray, List.set_cons_zero, List.set_cons_succ])
      refine wpAnyH_take (i := 39) (oi := ⟨some 350, _, _, _, _, _⟩) (v := ?_) rfl (by kernel_rfl) (by kernel_rfl) (by kernel_rfl) (fun _ _ _ h => h) (Or.inl ⟨by rfl, ?_⟩) hHeld ?_; rotate_left; (· (intro w_ hSw; (try dsimp only at hSw); (try go_split_ands); go_simp; (try with_reducible rfl))); (try simp only [Act.put, List.setIfInBounds_toArray, List.set_cons_zero, List.set_cons_succ])
      refine wpAnyH_take (i := 40) (oi := ⟨some 351, _, _, _, _, _⟩) (v := ?_) rfl (by kernel_rfl) (by kernel_rfl) (by kernel_rfl) (fun _ _ _ h => h) (Or.inl ⟨by rfl, ?_⟩) hHeld ?_; rotate_left; (· (intro w_ hSw; (try dsimp only at hSw); (try go_split_ands); go_simp; (try with_reducible rfl))); (try simp only [Act.put, List.setIfInBounds_toArray, List.set_cons_zero, List.set_cons_succ])
      refine wpAnyH_ready (rs := [41]) (by kernel_rfl) (by simp) ?_
      refine AllReadyH.cons (o := ⟨some 352, _, _, _, _, _⟩) rfl (fun K hK => ?_) AllReadyH.nil
      go_simp
      refine (SBR.out _).mono ?_
      rintro e z1 ⟨rfl, n_⟩
      have k_z1 : New o13 z1 := m00.trans n_
      refine hK.out _ _ ⟨n_.cell hHeld.1, n_.cell hHeld.2.1, n_.cell hHeld.2.2.1, n_.cell hHeld.2.2.2.1, n_.cell hHeld.2.2.2.2.1, n_.cell hHeld.2.2.2.2.2.1, n_.cell hHeld.2.2.2.2.2.2.1, n_.cell hHeld.2.2.2.2.2.2.2⟩ (fun hHeld => ?_)
      clear hK K n_ m00
      (try simp only [Act.put, List.setIfInBounds_toArray, List.set_cons_zero, List.set_cons_succ])
      refine wpAnyH_take (i := 42) (oi := ⟨some 353, _, _, _, _, _⟩) (v := ?_) rfl (by kernel_rfl) (by kernel_rfl) (by kernel_rfl) (fun _ _ _ h => h) (Or.inl ⟨by rfl, ?_⟩) hHeld ?_; rotate_left; (· (intro w_ hSw; (try dsimp only at hSw); (try go_split_ands); go_simp; (try with_reducible rfl))); (try simp only [Act.put, List.setIfInBounds_toArray, List.set_cons_zero, List.set_cons_succ])
      refine wpAnyH_take (i := 43) (oi := ⟨some 354, _, _, _, _, _⟩) (v := ?_) rfl (by kernel_rfl) (by kernel_rfl) (by kernel_rfl) (fun _ _ _ h => h) (Or.inl ⟨by rfl, ?_⟩) hHeld ?_; rotate_left; (· (intro w_ hSw; (try dsimp only at hSw); (try go_split_ands); go_simp; (try with_reducible rfl))); (try simp only [Act.put, List.setIfInBounds_toArray, List.set_cons_zero, List.set_cons_succ])
      refine wpAnyH_take (i := 44) (oi := ⟨some 355, _, _, _, _, _⟩) (v := ?_) rfl (by kernel_rfl) (by kernel_rfl) (by kernel_rfl) (fun _ _ _ h => h) (Or.inl ⟨by rfl, ?_⟩) hHeld ?_; rotate_left; (· (intro w_ hSw; (try dsimp only at hSw); (try go_split_ands); go_simp; (try with_reducible rfl))); (try simp only [Act.put, List.setIfInBounds_toArray, List.set_cons_zero, List.set_cons_succ])
      refine wpAnyH_take (i := 45) (oi := ⟨some 356, _, _, _, _, _⟩) (v := ?_) rfl (by kernel_rfl) (by kernel_rfl) (by kernel_rfl) (fun _ _ _ h => h) (Or.inl ⟨by rfl, ?_⟩) hHeld ?_; rotate_left; (· (intro w_ hSw; (try dsimp only at hSw); (try go_split_ands); go_simp; (try with_reducible rfl))); (try simp only [Act.put, List.setIfInBounds_toArray, List.set_cons_zero, List.set_cons_succ])
      refine wpAnyH_take (i := 47) (oi := ⟨some 358, _, _, _, _, _⟩) (v := ?_) rfl (by kernel_rfl) (by kernel_rfl) (by kernel_rfl) (fun _ _ _ h => h) (Or.inl ⟨by rfl, ?_⟩) hHeld ?_; rotate_left; (· (intro w_ hSw; (try dsimp only at hSw); (try go_split_ands); go_simp; (try with_reducible rfl))); (try simp only [Act.put, List.setIfInBounds_toArray, List.set_cons_zero, List.set_cons_succ])
      refine wpAnyH_ready (rs := [46]) (by kernel_rfl) (by simp) ?_
      refine AllReadyH.cons (o := ⟨some 357, _, _, _, _, _⟩) rfl (fun K hK => ?_) AllReadyH.nil
      go_simp
      refine (SBR.out _).mono ?_
      rintro e z2 ⟨rfl, n_⟩
      have k_z2 : New o13 z2 := k_z1.trans n_
      refine hK.out _ _ ⟨n_.cell hHeld.1, n_.cell hHeld.2.1, n_.cell hHeld.2.2.1, n_.cell hHeld.2.2.2.1, n_.cell hHeld.2.2.2.2.1, n_.cell hHeld.2.2.2.2.2.1, n_.cell hHeld.2.2.2.2.2.2.1, n_.cell hHeld.2.2.2.2.2.2.2⟩ (fun hHeld => ?_)
      clear hK K n_ k_z1
      (try simp only [Act.put, List.setIfInBounds_toArray, List.set_cons_zero, List.set_cons_succ])
      refine wpAnyH_ready (rs := [48]) (by kernel_rfl) (by simp) ?_
      refine AllReadyH.cons (o := ⟨some 359, _, _, _, _, _⟩) rfl (fun K hK => ?_) AllReadyH.nil
      go_simp
      refine (SBS.out _).mono ?_
      rintro e z3 ⟨rfl, n_⟩
      have k_z3 : New o13 z3 := k_z2.trans n_
      refine hK.out _ _ ⟨n_.cell hHeld.1, n_.cell hHeld.2.1, n_.cell hHeld.2.2.1, n_.cell hHeld.2.2.2.1, n_.cell hHeld.2.2.2.2.1, n_.cell hHeld.2.2.2.2.2.1, n_.cell hHeld.2.2.2.2.2.2.1, n_.cell hHeld.2.2.2.2.2.2.2⟩ (fun hHeld => ?_)
      clear hK K n_ k_z2
      (try simp only [Act.put, List.setIfInBounds_toArray, List.set_cons_zero, List.set_cons_succ])
      refine wpAnyH_take (i := 49) (oi := ⟨some 360, _, _, _, _, _⟩) (v := ?_) rfl (by kernel_rfl) (by kernel_rfl) (by kernel_rfl) (fun _ _ _ h => h) (Or.inl ⟨by rfl, ?_⟩) hHeld ?_; rotate_left; (· (intro w_ hSw; (try dsimp only at hSw); (try go_split_ands); go_simp; (try with_reducible rfl))); (try simp only [Act.put, List.setIfInBounds_toArray, List.set_cons_zero, List.set_cons_succ])
      refine wpAnyH_take (i := 50) (oi := ⟨some 361, _, _, _, _, _⟩) (v := ?_) rfl (by kernel_rfl) (by kernel_rfl) (by kernel_rfl) (fun _ _ _ h => h) (Or.inl ⟨by rfl, ?_⟩) hHeld ?_; rotate_left; (· (intro w_ hSw; (try dsimp only at hSw); (try go_split_ands); go_simp; (try with_reducible rfl))); (try simp only [Act.put, List.setIfInBounds_toArray, List.set_cons_zero, List.set_cons_succ])
      refine wpAnyH_take (i := 51) (oi := ⟨some 362, _, _, _, _, _⟩) (v := ?_) rfl (by kernel_rfl) (by kernel_rfl) (by kernel_rfl) (fun _ _ _ h => h) (Or.inl ⟨by rfl, ?_⟩) hHeld ?_; rotate_left; (· (intro w_ hSw; (try dsimp only at hSw); (try go_split_ands); go_simp; (try with_reducible rfl))); (try simp only [Act.put, List.setIfInBounds_toArray, List.set_cons_zero, List.set_cons_succ])
      refine wpAnyH_take (i := 52) (oi := ⟨some 363, _, _, _, _, _⟩) (v := ?_) rfl (by kernel_rfl) (by kernel_rfl) (by kernel_rfl) (fun _ _ _ h => h) (Or.inl ⟨by rfl, ?_⟩) hHeld ?_; rotate_left; (· (intro w_ hSw; (try dsimp only at hSw); (try go_split_ands); go_simp; (try with_reducible rfl))); (try simp only [Act.put, List.setIfInBounds_toArray, List.set_cons_zero, List.set_cons_succ])
      refine wpAnyH_take (i := 53) (oi := ⟨some 364, _, _, _, _, _⟩) (v := ?_) rfl (by kernel_rfl) (by kernel_rfl) (by kernel_rfl) (fun _ _ _ h => h) (Or.inl ⟨by rfl, ?_⟩) hHeld ?_; rotate_left; (· (intro w_ hSw; (try dsimp only at hSw); (try go_split_ands); go_simp; (try with_reducible rfl))); (try simp only [Act.put, List.setIfInBounds_toArray, List.set_cons_zero, List.set_cons_succ])
      refine wpAnyH_take (i := 54) (oi := ⟨some 365, _, _, _, _, _⟩) (v := ?_) rfl (by kernel_rfl) (by kernel_rfl) (by kernel_rfl) (fun _ _ _ h => h) (Or.inl ⟨by rfl, ?_⟩) hHeld ?_; rotate_left; (· (intro w_ hSw; (try dsimp only at hSw); (try go_split_ands); go_simp; (try with_reducible rfl))); (try simp only [Act.put, List.setIfInBounds_toArray, List.set_cons_zero, List.set_cons_succ])
      refine wpAnyH_take (i := 55) (oi := ⟨some 366, _, _, _, _, _⟩) (v := ?_) rfl (by kernel_rfl) (by kernel_rfl) (by kernel_rfl) (fun _ _ _ h => h) (Or.inl ⟨by rfl, ?_⟩) hHeld ?_; rotate_left; (· (intro w_ hSw; (try dsimp only at hSw); (try go_split_ands); go_simp; (try with_reducible rfl))); (try simp only [Act.put, List.setIfInBounds_toArray, List.set_cons_zero, List.set_cons_succ])
      refine wpAnyH_done (by kernel_rfl) ?_ _
      clear hHeld
      go_wp2_with fail
      go_meet
      exact ⟨by first | rfl | simp, k_z3⟩
    case rest =>
    obtain ⟨rfl, ew⟩ := hcut
    obtain ⟨o14, ho14⟩ : ∃ W, W = wc := ⟨_, rfl⟩
    rw [← ho14] at ew ⊢
    have BS_o14 := Lib.hid (BS_o13.out.new ew)
    have NN_o14 := Lib.hid (NN_o13.out.trans ew)
    clear ho14 ew NN_o13 BS_o13 BL_o13 BN_o13 BM_o13
    go_upto_if 367 with fail
    cases SB with
    | false =>
      go_wp2
      go_ret
      exact ⟨rfl, NN_o14.out⟩
    | true =>
      as_aux_lemma =>
      have okS := sipB_iff.1 HSB.out.symm
      have hmk : (Instr.makeSlice 28 (.int .i64 61) (.int .i64 61)).run Try.prog o14 = .ok (.slice (some ⟨o14.heap.size, 0, none⟩) 61 61) (o14.alloc (.cells (madeCells #[.int .i64 0] (61 * 1)) 3)) := run_makeD (n := 61) (by decide) o14
      obtain ⟨t9, ht9⟩ : ∃ W, W = o14.alloc (.cells (madeCells #[.int .i64 0] (61 * 1)) 3) := ⟨_, rfl⟩
      rw [← ht9] at hmk
      have e0 : t9.cell? ⟨o14.heap.size, 0, none⟩ = some (.int .i64 0) := by rw [ht9]; exact fill_cell _ _ 0 (by omega)
      have ef : t9.frozen? ⟨o14.heap.size, 0, none⟩ = false := by rw [ht9]; simp
      have n9 : New o14 t9 := by rw [ht9]; exact (New.refl _).alloc _
      have HT9 := Lib.hid ht9
      clear ht9
      obtain ⟨B, hB⟩ : ∃ B, B = o14.heap.size := ⟨_, rfl⟩
      have HB := Lib.hid hB
      clear hB
      clear HB
      have y2 := (BS_o14.out.new n9).c2
      go_upto_region 40 with fail
      clear hmk e0 ef y2
      obtain ⟨t8, ht8⟩ : ∃ W, W = t9.setCell ⟨o14.heap.size, 0, none⟩ (.int .i64 c2) := ⟨_, rfl⟩
      have IF := Lib.hid (show Ints t8 (some ⟨o14.heap.size, 0, none⟩) 61 61 (fillX c2) by rw [ht8, HT9.out]; exact fill_ints _ _ _)
      have n8 : New o14 t8 := by rw [ht8]; exact n9.setCell (Nat.le_refl _) _
      rw [← ht8]
      clear ht8
      have x0 := (BS_o14.out.new n8).c0
      have x1 := (BS_o14.out.new n8).c1
      have x2 := (BS_o14.out.new n8).c2
      have x3 := (BS_o14.out.new n8).c3
      go_wp2_with fail
      clear x0 x1 x2 x3
      refine (iOutsOf_any _ a2 b2 c2 d2 0 false _ 61 61 (fillX c2) IF.out).mono ?_
      rintro e w9 ⟨fa9, fn9, fc9, rfl, own, n7⟩
      have FO := fill_out okS
      have lf : fn9 = 61 := by have q := own.ints.1; unfold outsM at q; rw [if_pos FO.1, outsTo_length, fillX_length] at q; exact q
      have FI := Lib.hid (show ∀ j, j < fn9 → 0 ≤ (outsM a2 b2 c2 d2 0 false (fillX c2))[j]?.getD 0 ∧ (outsM a2 b2 c2 d2 0 false (fillX c2))[j]?.getD 0 ≤ 1000000 by
        intro j hj
        have rb := runB_iff.1 FO.1
        have q := outsTo_in (r := false) rb.1.1 rb.1.2.1 rb.1.2.2 rb.2.2 j (by rw [outsTo_length, fillX_length]; omega)
        unfold outsM
        rw [if_pos FO.1]
        omega)
      have OI := Lib.hid own.ints
      have N7 := Lib.hid (n8.trans n7)
      rw [FO.1]
      have FS := Lib.hid FO.2
      have f61 : fn9 ≤ 1000000 := by omega
      clear own n7 n8 n9 FO lf
      go_wp2_with fail
      refine (eSum_any _ fa9 fn9 fc9 _ OI.out f61 FI.out).mono ?_
      rintro e _ ⟨rfl, rfl⟩
      rw [FS.out, ← Hcp.out]
      go_wp2
      go_ret
      exact ⟨by first | rfl | simp, NN_o14.out.trans N7.out⟩
end Go.Proofs.Ytfhpmihjfojbnaa
