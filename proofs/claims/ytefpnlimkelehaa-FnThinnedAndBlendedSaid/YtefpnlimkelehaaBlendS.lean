/- BlendAmounts, the model's. -/
import Derived.Test.YtefpnlimkelehaaBlendI
import Derived.Test.YtefpnlimkelehaaGap
import Derived.Deep.RegionHeld
namespace Go.Proofs.Ytefpnlimkelehaa
open Go.RowKit Go.IntWalk

set_option maxRecDepth 100000 in
set_option maxHeartbeats 8000000 in
theorem sBlendAmounts_any (w : World) (p1 p2 q1 q2 g1 g2 : Int) :
    Calls Try.prog 13 #[ratV (p1, p2), ratV (q1, q2), ratV (g1, g2)] w fun e w' => e = .returned (.tuple #[.int .i64 (blM p1 p2 q1 q2 g1 g2).1, .int .i64 (blM p1 p2 q1 q2 g1 g2).2, .bool (blB p1 p2 q1 q2 g1 g2)]) ∧ New w w' := by
  by_cases hp : sgR p1 p2 = true
  · have G1 := Lib.hid hp
    by_cases hq : sgR q1 q2 = true
    · have G2 := Lib.hid hq
      by_cases hg : sgR g1 g2 = true
      · have G3 := Lib.hid hg
        by_cases ep : g1 = p1 ∧ g2 = p2
        · have W := bl_p hp hq hg ep
          have WB := Lib.hid W.1; have WM := Lib.hid W.2
          have EP := Lib.hid (show decide (((p1, p2) : Int × Int) = (g1, g2)) = true by rw [ep.1, ep.2]; simp); clear W hp hq hg ep
          go_enter Try.func13, Try.ntmps13
          go_upto_region 1 with fail
          obtain ⟨v0, hv0⟩ : ∃ xx : World, xx = (((w.alloc (.cells #[.int .i64 p1, .int .i64 p2] 27)).alloc (.cells #[.int .i64 q1, .int .i64 q2] 27)).alloc (.cells #[.int .i64 g1, .int .i64 g2] 27)) := ⟨_, rfl⟩
          rw [← hv0]
          have l0_v0 : v0.cell? ⟨w.heap.size, 0, none⟩ = some (.int .i64 p1) := by rw [hv0]; simp [go_sem]
          have l1_v0 : v0.cell? ⟨w.heap.size, 1, none⟩ = some (.int .i64 p2) := by rw [hv0]; simp [go_sem]
          have m0_v0 : v0.cell? ⟨w.heap.size + 1, 0, none⟩ = some (.int .i64 q1) := by rw [hv0]; simp [go_sem]
          have m1_v0 : v0.cell? ⟨w.heap.size + 1, 1, none⟩ = some (.int .i64 q2) := by rw [hv0]; simp [go_sem]
          have h0_v0 : v0.cell? ⟨w.heap.size + 1 + 1, 0, none⟩ = some (.int .i64 g1) := by rw [hv0]; simp [go_sem]
          have h1_v0 : v0.cell? ⟨w.heap.size + 1 + 1, 1, none⟩ = some (.int .i64 g2) := by rw [hv0]; simp [go_sem]
          have N0 := Lib.hid (show New w v0 by rw [hv0]; exact (by repeat (first | with_reducible exact New.refl _ | with_reducible assumption | refine New.drewN ?_ _ | refine New.drew ?_ | refine New.alloc ?_ _ | refine New.setCell ?_ (by first | omega | (simp; omega) | (simp; done)) _ | (refine New.trans ?_ (by assumption)))))
          have zv0 : w.heap.size + 1 + 1 < v0.heap.size := by rw [hv0]; simp
          clear hv0
          go_wp2_with fail
          refine (saGood_any _ p1 p2).mono ?_
          rintro e w1 ⟨rfl, n_w1⟩
          rw [G1.out]
          have l0_w1 : w1.cell? ⟨w.heap.size, 0, none⟩ = some (.int .i64 p1) := n_w1.cell l0_v0; have l1_w1 : w1.cell? ⟨w.heap.size, 1, none⟩ = some (.int .i64 p2) := n_w1.cell l1_v0; have m0_w1 : w1.cell? ⟨w.heap.size + 1, 0, none⟩ = some (.int .i64 q1) := n_w1.cell m0_v0; have m1_w1 : w1.cell? ⟨w.heap.size + 1, 1, none⟩ = some (.int .i64 q2) := n_w1.cell m1_v0; have h0_w1 : w1.cell? ⟨w.heap.size + 1 + 1, 0, none⟩ = some (.int .i64 g1) := n_w1.cell h0_v0; have h1_w1 : w1.cell? ⟨w.heap.size + 1 + 1, 1, none⟩ = some (.int .i64 g2) := n_w1.cell h1_v0
          have N1 := Lib.hid (N0.out.trans n_w1)
          clear n_w1 l0_v0 l1_v0 m0_v0 m1_v0 h0_v0 h1_v0
          go_wp2_with fail
          refine (saGood_any _ q1 q2).mono ?_
          rintro e w2 ⟨rfl, n_w2⟩
          rw [G2.out]
          have l0_w2 : w2.cell? ⟨w.heap.size, 0, none⟩ = some (.int .i64 p1) := n_w2.cell l0_w1; have l1_w2 : w2.cell? ⟨w.heap.size, 1, none⟩ = some (.int .i64 p2) := n_w2.cell l1_w1; have m0_w2 : w2.cell? ⟨w.heap.size + 1, 0, none⟩ = some (.int .i64 q1) := n_w2.cell m0_w1; have m1_w2 : w2.cell? ⟨w.heap.size + 1, 1, none⟩ = some (.int .i64 q2) := n_w2.cell m1_w1; have h0_w2 : w2.cell? ⟨w.heap.size + 1 + 1, 0, none⟩ = some (.int .i64 g1) := n_w2.cell h0_w1; have h1_w2 : w2.cell? ⟨w.heap.size + 1 + 1, 1, none⟩ = some (.int .i64 g2) := n_w2.cell h1_w1
          have N2 := Lib.hid (N1.out.trans n_w2)
          clear n_w2 l0_w1 l1_w1 m0_w1 m1_w1 h0_w1 h1_w1
          go_wp2_with fail
          refine (saGood_any _ g1 g2).mono ?_
          rintro e w3 ⟨rfl, n_w3⟩
          rw [G3.out]
          have l0_w3 : w3.cell? ⟨w.heap.size, 0, none⟩ = some (.int .i64 p1) := n_w3.cell l0_w2; have l1_w3 : w3.cell? ⟨w.heap.size, 1, none⟩ = some (.int .i64 p2) := n_w3.cell l1_w2; have m0_w3 : w3.cell? ⟨w.heap.size + 1, 0, none⟩ = some (.int .i64 q1) := n_w3.cell m0_w2; have m1_w3 : w3.cell? ⟨w.heap.size + 1, 1, none⟩ = some (.int .i64 q2) := n_w3.cell m1_w2; have h0_w3 : w3.cell? ⟨w.heap.size + 1 + 1, 0, none⟩ = some (.int .i64 g1) := n_w3.cell h0_w2; have h1_w3 : w3.cell? ⟨w.heap.size + 1 + 1, 1, none⟩ = some (.int .i64 g2) := n_w3.cell h1_w2
          have N3 := Lib.hid (N2.out.trans n_w3)
          clear n_w3 l0_w2 l1_w2 m0_w2 m1_w2 h0_w2 h1_w2
          go_wp2_with ((with_reducible (show wpList _ _ _ ({ dst := _, op := .binOp .eql _ _ _ _, type := _, pos := _, after := _, guard := _ } :: _) _ _)); go_must (refine wpList_value_as rfl (.bool true) (exec_eql_ratio (.tmp 27) (.tmp 28) rfl (p1, p2) (g1, g2) rfl rfl true EP.out) ?_))
          refine bodyPost_ret (v := .tuple #[.int .i64 (1), .int .i64 (0), .bool true]) (by simp [results, Try.results13, go_sem]) rfl ⟨by rw [WM.out, WB.out], ?_⟩
          have := N3.out
          (repeat (first | with_reducible exact New.refl _ | with_reducible assumption | refine New.drewN ?_ _ | refine New.drew ?_ | refine New.alloc ?_ _ | refine New.setCell ?_ (by first | omega | (simp; omega) | (simp; done)) _ | (refine New.trans ?_ (by assumption))))
        · have EP := Lib.hid (show decide (((p1, p2) : Int × Int) = (g1, g2)) = false from decide_eq_false fun h => ep (by simp only [Prod.mk.injEq] at h; exact ⟨h.1.symm, h.2.symm⟩))
          by_cases eq : g1 = q1 ∧ g2 = q2
          · have W := bl_q hp hq hg ep eq
            have WB := Lib.hid W.1; have WM := Lib.hid W.2
            have EQ := Lib.hid (show decide (((q1, q2) : Int × Int) = (g1, g2)) = true by rw [eq.1, eq.2]; simp); clear W hp hq hg ep eq
            go_enter Try.func13, Try.ntmps13
            go_upto_region 1 with fail
            obtain ⟨v0, hv0⟩ : ∃ xx : World, xx = (((w.alloc (.cells #[.int .i64 p1, .int .i64 p2] 27)).alloc (.cells #[.int .i64 q1, .int .i64 q2] 27)).alloc (.cells #[.int .i64 g1, .int .i64 g2] 27)) := ⟨_, rfl⟩
            rw [← hv0]
            have l0_v0 : v0.cell? ⟨w.heap.size, 0, none⟩ = some (.int .i64 p1) := by rw [hv0]; simp [go_sem]
            have l1_v0 : v0.cell? ⟨w.heap.size, 1, none⟩ = some (.int .i64 p2) := by rw [hv0]; simp [go_sem]
            have m0_v0 : v0.cell? ⟨w.heap.size + 1, 0, none⟩ = some (.int .i64 q1) := by rw [hv0]; simp [go_sem]
            have m1_v0 : v0.cell? ⟨w.heap.size + 1, 1, none⟩ = some (.int .i64 q2) := by rw [hv0]; simp [go_sem]
            have h0_v0 : v0.cell? ⟨w.heap.size + 1 + 1, 0, none⟩ = some (.int .i64 g1) := by rw [hv0]; simp [go_sem]
            have h1_v0 : v0.cell? ⟨w.heap.size + 1 + 1, 1, none⟩ = some (.int .i64 g2) := by rw [hv0]; simp [go_sem]
            have N0 := Lib.hid (show New w v0 by rw [hv0]; exact (by repeat (first | with_reducible exact New.refl _ | with_reducible assumption | refine New.drewN ?_ _ | refine New.drew ?_ | refine New.alloc ?_ _ | refine New.setCell ?_ (by first | omega | (simp; omega) | (simp; done)) _ | (refine New.trans ?_ (by assumption)))))
            have zv0 : w.heap.size + 1 + 1 < v0.heap.size := by rw [hv0]; simp
            clear hv0
            go_wp2_with fail
            refine (saGood_any _ p1 p2).mono ?_
            rintro e w1 ⟨rfl, n_w1⟩
            rw [G1.out]
            have l0_w1 : w1.cell? ⟨w.heap.size, 0, none⟩ = some (.int .i64 p1) := n_w1.cell l0_v0; have l1_w1 : w1.cell? ⟨w.heap.size, 1, none⟩ = some (.int .i64 p2) := n_w1.cell l1_v0; have m0_w1 : w1.cell? ⟨w.heap.size + 1, 0, none⟩ = some (.int .i64 q1) := n_w1.cell m0_v0; have m1_w1 : w1.cell? ⟨w.heap.size + 1, 1, none⟩ = some (.int .i64 q2) := n_w1.cell m1_v0; have h0_w1 : w1.cell? ⟨w.heap.size + 1 + 1, 0, none⟩ = some (.int .i64 g1) := n_w1.cell h0_v0; have h1_w1 : w1.cell? ⟨w.heap.size + 1 + 1, 1, none⟩ = some (.int .i64 g2) := n_w1.cell h1_v0
            have N1 := Lib.hid (N0.out.trans n_w1)
            clear n_w1 l0_v0 l1_v0 m0_v0 m1_v0 h0_v0 h1_v0
            go_wp2_with fail
            refine (saGood_any _ q1 q2).mono ?_
            rintro e w2 ⟨rfl, n_w2⟩
            rw [G2.out]
            have l0_w2 : w2.cell? ⟨w.heap.size, 0, none⟩ = some (.int .i64 p1) := n_w2.cell l0_w1; have l1_w2 : w2.cell? ⟨w.heap.size, 1, none⟩ = some (.int .i64 p2) := n_w2.cell l1_w1; have m0_w2 : w2.cell? ⟨w.heap.size + 1, 0, none⟩ = some (.int .i64 q1) := n_w2.cell m0_w1; have m1_w2 : w2.cell? ⟨w.heap.size + 1, 1, none⟩ = some (.int .i64 q2) := n_w2.cell m1_w1; have h0_w2 : w2.cell? ⟨w.heap.size + 1 + 1, 0, none⟩ = some (.int .i64 g1) := n_w2.cell h0_w1; have h1_w2 : w2.cell? ⟨w.heap.size + 1 + 1, 1, none⟩ = some (.int .i64 g2) := n_w2.cell h1_w1
            have N2 := Lib.hid (N1.out.trans n_w2)
            clear n_w2 l0_w1 l1_w1 m0_w1 m1_w1 h0_w1 h1_w1
            go_wp2_with fail
            refine (saGood_any _ g1 g2).mono ?_
            rintro e w3 ⟨rfl, n_w3⟩
            rw [G3.out]
            have l0_w3 : w3.cell? ⟨w.heap.size, 0, none⟩ = some (.int .i64 p1) := n_w3.cell l0_w2; have l1_w3 : w3.cell? ⟨w.heap.size, 1, none⟩ = some (.int .i64 p2) := n_w3.cell l1_w2; have m0_w3 : w3.cell? ⟨w.heap.size + 1, 0, none⟩ = some (.int .i64 q1) := n_w3.cell m0_w2; have m1_w3 : w3.cell? ⟨w.heap.size + 1, 1, none⟩ = some (.int .i64 q2) := n_w3.cell m1_w2; have h0_w3 : w3.cell? ⟨w.heap.size + 1 + 1, 0, none⟩ = some (.int .i64 g1) := n_w3.cell h0_w2; have h1_w3 : w3.cell? ⟨w.heap.size + 1 + 1, 1, none⟩ = some (.int .i64 g2) := n_w3.cell h1_w2
            have N3 := Lib.hid (N2.out.trans n_w3)
            clear n_w3 l0_w2 l1_w2 m0_w2 m1_w2 h0_w2 h1_w2
            go_upto_region 5 with ((with_reducible (show wpList _ _ _ ({ dst := _, op := .binOp .eql _ _ _ _, type := _, pos := _, after := _, guard := _ } :: _) _ _)); go_must (refine wpList_value_as rfl (.bool false) (exec_eql_ratio (.tmp 27) (.tmp 28) rfl (p1, p2) (g1, g2) rfl rfl false EP.out) ?_))
            go_wp2_with ((with_reducible (show wpList _ _ _ ({ dst := _, op := .binOp .eql _ _ _ _, type := _, pos := _, after := _, guard := _ } :: _) _ _)); go_must (refine wpList_value_as rfl (.bool true) (exec_eql_ratio (.tmp 30) (.tmp 31) rfl (q1, q2) (g1, g2) rfl rfl true EQ.out) ?_))
            refine bodyPost_ret (v := .tuple #[.int .i64 (0), .int .i64 (1), .bool true]) (by simp [results, Try.results13, go_sem]) rfl ⟨by rw [WM.out, WB.out], ?_⟩
            have := N3.out
            (repeat (first | with_reducible exact New.refl _ | with_reducible assumption | refine New.drewN ?_ _ | refine New.drew ?_ | refine New.alloc ?_ _ | refine New.setCell ?_ (by first | omega | (simp; omega) | (simp; done)) _ | (refine New.trans ?_ (by assumption))))
          · have EQ := Lib.hid (show decide (((q1, q2) : Int × Int) = (g1, g2)) = false from decide_eq_false fun h => eq (by simp only [Prod.mk.injEq] at h; exact ⟨h.1.symm, h.2.symm⟩))
            have M := bl_mid hp hq hg ep eq
            have U := bl_out ep eq
            have Ap := gap_pos hq hg eq
            have Cp := gap_pos hp hg ep
            obtain ⟨a1, a2⟩ := sg_mul2 hp hg
            obtain ⟨b1, b2⟩ := sg_mul2 hg hp
            obtain ⟨c1, c2⟩ := sg_mul2 hg hq
            obtain ⟨d1, d2⟩ := sg_mul2 hq hg
            have bp := (sgR_iff.1 hp).1; have bq := (sgR_iff.1 hq).1; have bg := (sgR_iff.1 hg).1
            obtain ⟨bp1, bp2⟩ := bp; obtain ⟨bq1, bq2⟩ := bq; obtain ⟨bg1, bg2⟩ := bg
            obtain ⟨A, hA⟩ : ∃ x, x = (q1 * g2 - g1 * q2).natAbs := ⟨_, rfl⟩
            obtain ⟨C, hC⟩ : ∃ x, x = (p1 * g2 - g1 * p2).natAbs := ⟨_, rfl⟩
            have HR := Lib.hid (show blR p1 p2 q1 q2 g1 g2 = red ((A : Int) * p2) ((C : Int) * q2) by unfold blR; rw [← hA, ← hC])
            rw [← hA] at Ap; rw [← hC] at Cp
            have Ab : A ≤ 4611686018427387904 := by omega
            have Cb : C ≤ 4611686018427387904 := by omega
            have EC := Lib.hid hC.symm; have EA2 := Lib.hid (show (g1 * q2 - q1 * g2).natAbs = A by rw [hA]; omega)
            have HE1 : decide (p1 * g2 - g1 * p2 < 0) = decide (p1 * g2 < g1 * p2) := by simp only [decide_eq_decide]; omega
            have HE2 : decide (g1 * q2 - q1 * g2 < 0) = decide (g1 * q2 < q1 * g2) := by simp only [decide_eq_decide]; omega
            have ssn := sign_same (a := p1 * g2 - g1 * p2) (b := g1 * q2 - q1 * g2) (by rw [EC.out]; exact Cp) (by rw [EA2.out]; exact Ap)
            rw [HE1, HE2] at ssn
            obtain ⟨⟨ss1, ss2⟩, ss3⟩ := ssn
            have SS := Lib.hid (show 0 < (p1 * g2 - g1 * p2).sign * (g1 * q2 - q1 * g2).sign ↔ betB p1 p2 q1 q2 g1 g2 = true from ss3)
            obtain ⟨u1s, hu1⟩ : ∃ x, x = (p1 * g2 - g1 * p2).sign := ⟨_, rfl⟩
            obtain ⟨u2s, hu2⟩ : ∃ x, x = (g1 * q2 - q1 * g2).sign := ⟨_, rfl⟩
            rw [← hu1, ← hu2] at ss1 ss2 SS
            have HU1 := Lib.hid hu1.symm; have HU2 := Lib.hid hu2.symm
            obtain ⟨p2n, rfl⟩ : ∃ m : Nat, p2 = (m : Int) := ⟨p2.toNat, by omega⟩
            obtain ⟨q2n, rfl⟩ : ∃ m : Nat, q2 = (m : Int) := ⟨q2.toNat, by omega⟩
            obtain ⟨g2n, rfl⟩ : ∃ m : Nat, g2 = (m : Int) := ⟨g2.toNat, by omega⟩
            have U := Lib.hid U; have M := Lib.hid M
            clear hp hq hg ep eq hA hC HE1 HE2 hu1 hu2 ss3
            go_enter Try.func13, Try.ntmps13
            go_upto_region 1 with fail
            obtain ⟨v0, hv0⟩ : ∃ xx : World, xx = (((w.alloc (.cells #[.int .i64 p1, .int .i64 (p2n : Int)] 27)).alloc (.cells #[.int .i64 q1, .int .i64 (q2n : Int)] 27)).alloc (.cells #[.int .i64 g1, .int .i64 (g2n : Int)] 27)) := ⟨_, rfl⟩
            rw [← hv0]
            have l0_v0 : v0.cell? ⟨w.heap.size, 0, none⟩ = some (.int .i64 p1) := by rw [hv0]; simp [go_sem]
            have l1_v0 : v0.cell? ⟨w.heap.size, 1, none⟩ = some (.int .i64 (p2n : Int)) := by rw [hv0]; simp [go_sem]
            have m0_v0 : v0.cell? ⟨w.heap.size + 1, 0, none⟩ = some (.int .i64 q1) := by rw [hv0]; simp [go_sem]
            have m1_v0 : v0.cell? ⟨w.heap.size + 1, 1, none⟩ = some (.int .i64 (q2n : Int)) := by rw [hv0]; simp [go_sem]
            have h0_v0 : v0.cell? ⟨w.heap.size + 1 + 1, 0, none⟩ = some (.int .i64 g1) := by rw [hv0]; simp [go_sem]
            have h1_v0 : v0.cell? ⟨w.heap.size + 1 + 1, 1, none⟩ = some (.int .i64 (g2n : Int)) := by rw [hv0]; simp [go_sem]
            have N0 := Lib.hid (show New w v0 by rw [hv0]; exact (by repeat (first | with_reducible exact New.refl _ | with_reducible assumption | refine New.drewN ?_ _ | refine New.drew ?_ | refine New.alloc ?_ _ | refine New.setCell ?_ (by first | omega | (simp; omega) | (simp; done)) _ | (refine New.trans ?_ (by assumption)))))
            have zv0 : w.heap.size + 1 + 1 < v0.heap.size := by rw [hv0]; simp
            clear hv0
            go_wp2_with fail
            refine (saGood_any _ p1 (p2n : Int)).mono ?_
            rintro e w1 ⟨rfl, n_w1⟩
            rw [G1.out]
            have l0_w1 : w1.cell? ⟨w.heap.size, 0, none⟩ = some (.int .i64 p1) := n_w1.cell l0_v0; have l1_w1 : w1.cell? ⟨w.heap.size, 1, none⟩ = some (.int .i64 (p2n : Int)) := n_w1.cell l1_v0; have m0_w1 : w1.cell? ⟨w.heap.size + 1, 0, none⟩ = some (.int .i64 q1) := n_w1.cell m0_v0; have m1_w1 : w1.cell? ⟨w.heap.size + 1, 1, none⟩ = some (.int .i64 (q2n : Int)) := n_w1.cell m1_v0; have h0_w1 : w1.cell? ⟨w.heap.size + 1 + 1, 0, none⟩ = some (.int .i64 g1) := n_w1.cell h0_v0; have h1_w1 : w1.cell? ⟨w.heap.size + 1 + 1, 1, none⟩ = some (.int .i64 (g2n : Int)) := n_w1.cell h1_v0
            have N1 := Lib.hid (N0.out.trans n_w1)
            clear n_w1 l0_v0 l1_v0 m0_v0 m1_v0 h0_v0 h1_v0
            go_wp2_with fail
            refine (saGood_any _ q1 (q2n : Int)).mono ?_
            rintro e w2 ⟨rfl, n_w2⟩
            rw [G2.out]
            have l0_w2 : w2.cell? ⟨w.heap.size, 0, none⟩ = some (.int .i64 p1) := n_w2.cell l0_w1; have l1_w2 : w2.cell? ⟨w.heap.size, 1, none⟩ = some (.int .i64 (p2n : Int)) := n_w2.cell l1_w1; have m0_w2 : w2.cell? ⟨w.heap.size + 1, 0, none⟩ = some (.int .i64 q1) := n_w2.cell m0_w1; have m1_w2 : w2.cell? ⟨w.heap.size + 1, 1, none⟩ = some (.int .i64 (q2n : Int)) := n_w2.cell m1_w1; have h0_w2 : w2.cell? ⟨w.heap.size + 1 + 1, 0, none⟩ = some (.int .i64 g1) := n_w2.cell h0_w1; have h1_w2 : w2.cell? ⟨w.heap.size + 1 + 1, 1, none⟩ = some (.int .i64 (g2n : Int)) := n_w2.cell h1_w1
            have N2 := Lib.hid (N1.out.trans n_w2)
            clear n_w2 l0_w1 l1_w1 m0_w1 m1_w1 h0_w1 h1_w1
            go_wp2_with fail
            refine (saGood_any _ g1 (g2n : Int)).mono ?_
            rintro e w3 ⟨rfl, n_w3⟩
            rw [G3.out]
            have l0_w3 : w3.cell? ⟨w.heap.size, 0, none⟩ = some (.int .i64 p1) := n_w3.cell l0_w2; have l1_w3 : w3.cell? ⟨w.heap.size, 1, none⟩ = some (.int .i64 (p2n : Int)) := n_w3.cell l1_w2; have m0_w3 : w3.cell? ⟨w.heap.size + 1, 0, none⟩ = some (.int .i64 q1) := n_w3.cell m0_w2; have m1_w3 : w3.cell? ⟨w.heap.size + 1, 1, none⟩ = some (.int .i64 (q2n : Int)) := n_w3.cell m1_w2; have h0_w3 : w3.cell? ⟨w.heap.size + 1 + 1, 0, none⟩ = some (.int .i64 g1) := n_w3.cell h0_w2; have h1_w3 : w3.cell? ⟨w.heap.size + 1 + 1, 1, none⟩ = some (.int .i64 (g2n : Int)) := n_w3.cell h1_w2
            have N3 := Lib.hid (N2.out.trans n_w3)
            clear n_w3 l0_w2 l1_w2 m0_w2 m1_w2 h0_w2 h1_w2
            go_upto_region 5 with ((with_reducible (show wpList _ _ _ ({ dst := _, op := .binOp .eql _ _ _ _, type := _, pos := _, after := _, guard := _ } :: _) _ _)); go_must (refine wpList_value_as rfl (.bool false) (exec_eql_ratio (.tmp 27) (.tmp 28) rfl (p1, (p2n : Int)) (g1, (g2n : Int)) rfl rfl false EP.out) ?_))
            go_upto_region 7 with ((with_reducible (show wpList _ _ _ ({ dst := _, op := .binOp .eql _ _ _ _, type := _, pos := _, after := _, guard := _ } :: _) _ _)); go_must (refine wpList_value_as rfl (.bool false) (exec_eql_ratio (.tmp 30) (.tmp 31) rfl (q1, (q2n : Int)) (g1, (g2n : Int)) rfl rfl false EQ.out) ?_))
            (try simp only [Act.put, List.setIfInBounds_toArray, List.set_cons_zero, List.set_cons_succ])
            go_cut [9, 10] (fun p q W => CutTwo w3 (.int .i64 u1s) (.int .i64 (C : Int)) (.int .i64 (p2n : Int)) (.int .i64 (g2n : Int)) (.int .i64 u2s) (.int .i64 (A : Int)) (.int .i64 (g2n : Int)) (.int .i64 (q2n : Int)) p q W)
            case first =>
              have zz3 := World.block_lt_of_cell? _ _ h0_w3
              simp only at zz3
              have M0 : New w3 w3.drew := (New.refl _).drew
              refine wp_region_held_drew (S := fun w' => w'.cell? ⟨w.heap.size, 0, none⟩ = some (.int .i64 p1) ∧ w'.cell? ⟨w.heap.size, 1, none⟩ = some (.int .i64 (p2n : Int)) ∧ w'.cell? ⟨w.heap.size + 1, 0, none⟩ = some (.int .i64 q1) ∧ w'.cell? ⟨w.heap.size + 1, 1, none⟩ = some (.int .i64 (q2n : Int)) ∧ w'.cell? ⟨w.heap.size + 1 + 1, 0, none⟩ = some (.int .i64 g1) ∧ w'.cell? ⟨w.heap.size + 1 + 1, 1, none⟩ = some (.int .i64 (g2n : Int))) (by kernel_rfl) ⟨l0_w3, l1_w3, m0_w3, m1_w3, h0_w3, h1_w3⟩ (fun hHeld => ?_)
              obtain ⟨y0, hy0⟩ : ∃ y, y = w3.drew := ⟨_, rfl⟩
              rw [← hy0] at M0 hHeld ⊢; clear hy0
              refine wpAnyH_take (i := 0) (oi := ⟨some 33, _, _, _, _, _⟩) (v := ?_) rfl (by kernel_rfl) (by kernel_rfl) (by kernel_rfl) (fun _ _ _ h => h) (Or.inl ⟨by rfl, ?_⟩) hHeld ?_; rotate_left; (· (intro w_ hSw; (try dsimp only at hSw); (try go_split_ands); go_simp; (try with_reducible rfl))); (try simp only [Act.put, List.setIfInBounds_toArray, List.set_cons_zero, List.set_cons_succ])
              refine wpAnyH_take (i := 1) (oi := ⟨some 34, _, _, _, _, _⟩) (v := ?_) rfl (by kernel_rfl) (by kernel_rfl) (by kernel_rfl) (fun _ _ _ h => h) (Or.inl ⟨by rfl, ?_⟩) hHeld ?_; rotate_left; (· (intro w_ hSw; (try dsimp only at hSw); (try go_split_ands); go_simp; (try with_reducible rfl))); (try simp only [Act.put, List.setIfInBounds_toArray, List.set_cons_zero, List.set_cons_succ])
              refine wpAnyH_take (i := 3) (oi := ⟨some 36, _, _, _, _, _⟩) (v := ?_) rfl (by kernel_rfl) (by kernel_rfl) (by kernel_rfl) (fun _ _ _ h => h) (Or.inl ⟨by rfl, ?_⟩) hHeld ?_; rotate_left; (· (intro w_ hSw; (try dsimp only at hSw); (try go_split_ands); go_simp; (try with_reducible rfl))); (try simp only [Act.put, List.setIfInBounds_toArray, List.set_cons_zero, List.set_cons_succ])
              refine wpAnyH_take (i := 4) (oi := ⟨some 37, _, _, _, _, _⟩) (v := ?_) rfl (by kernel_rfl) (by kernel_rfl) (by kernel_rfl) (fun _ _ _ h => h) (Or.inl ⟨by rfl, ?_⟩) hHeld ?_; rotate_left; (· (intro w_ hSw; (try dsimp only at hSw); (try go_split_ands); go_simp; (try with_reducible rfl))); (try simp only [Act.put, List.setIfInBounds_toArray, List.set_cons_zero, List.set_cons_succ])
              refine wpAnyH_ready (rs := [2, 6, 7]) (by kernel_rfl) (by simp) ?_
              refine AllReadyH.cons (o := ⟨some 35, _, _, _, _, _⟩) rfl (fun K hK => ?_) ?_
              · skip
                go_simp
                refine (saGap_any _ p1 (p2n : Int) g1 (g2n : Int) a1 a2 b1 b2).mono ?_
                rintro e y1 ⟨rfl, n_⟩
                rw [HU1.out, EC.out]
                refine hK.out _ _ ⟨n_.cell hHeld.1, n_.cell hHeld.2.1, n_.cell hHeld.2.2.1, n_.cell hHeld.2.2.2.1, n_.cell hHeld.2.2.2.2.1, n_.cell hHeld.2.2.2.2.2⟩ (fun hHeld => ?_)
                clear hK K
                (try simp only [Act.put, List.setIfInBounds_toArray, List.set_cons_zero, List.set_cons_succ])
                have sy1 := n_.size
                replace M0 := M0.trans n_; clear n_
                refine wpAnyH_ready (rs := [5, 6, 7]) (by kernel_rfl) (by simp) ?_
                refine AllReadyH.cons (o := ⟨some 38, _, _, _, _, _⟩) rfl (fun K hK => ?_) ?_
                · skip
                  go_simp
                  refine (saGap_any _ g1 (g2n : Int) q1 (q2n : Int) c1 c2 d1 d2).mono ?_
                  rintro e y2 ⟨rfl, n_⟩
                  rw [HU2.out, EA2.out]
                  refine hK.out _ _ ⟨n_.cell hHeld.1, n_.cell hHeld.2.1, n_.cell hHeld.2.2.1, n_.cell hHeld.2.2.2.1, n_.cell hHeld.2.2.2.2.1, n_.cell hHeld.2.2.2.2.2⟩ (fun hHeld => ?_)
                  clear hK K
                  (try simp only [Act.put, List.setIfInBounds_toArray, List.set_cons_zero, List.set_cons_succ])
                  have sy2 := n_.size
                  replace M0 := M0.trans n_; clear n_
                  refine wpAnyH_ready (rs := [6, 7]) (by kernel_rfl) (by simp) ?_
                  refine AllReadyH.cons (o := ⟨some 9, _, _, _, _, _⟩) rfl (fun K hK => ?_) ?_
                  · skip
                    go_simp
                    obtain ⟨y3, hz⟩ : ∃ z, z = y2.alloc (.cells #[.int .i64 0, .int .i64 0, .int .i64 0, .int .i64 0] 60) := ⟨_, rfl⟩
                    rw [← hz]
                    have n_ : New y2 y3 := by rw [hz]; exact (New.refl _).alloc _
                    have q6 : Q4 y3 y2.heap.size (.int .i64 0) (.int .i64 0) (.int .i64 0) (.int .i64 0) := by rw [hz]; exact Q4.fresh _ _ _ _ _ _
                    have l6 : w3.heap.size ≤ y2.heap.size := M0.size
                    clear hz
                    refine hK.out _ _ ⟨n_.cell hHeld.1, n_.cell hHeld.2.1, n_.cell hHeld.2.2.1, n_.cell hHeld.2.2.2.1, n_.cell hHeld.2.2.2.2.1, n_.cell hHeld.2.2.2.2.2⟩ (fun hHeld => ?_)
                    clear hK K
                    (try simp only [Act.put, List.setIfInBounds_toArray, List.set_cons_zero, List.set_cons_succ])
                    have sy3 := n_.size
                    replace M0 := M0.trans n_; clear n_
                    have t6y3 := q6.lt
                    refine wpAnyH_ready (rs := [7]) (by kernel_rfl) (by simp) ?_
                    refine AllReadyH.cons (o := ⟨some 10, _, _, _, _, _⟩) rfl (fun K hK => ?_) AllReadyH.nil
                    go_simp
                    obtain ⟨y4, hz⟩ : ∃ z, z = y3.alloc (.cells #[.int .i64 0, .int .i64 0, .int .i64 0, .int .i64 0] 60) := ⟨_, rfl⟩
                    rw [← hz]
                    have n_ : New y3 y4 := by rw [hz]; exact (New.refl _).alloc _
                    have q7 : Q4 y4 y3.heap.size (.int .i64 0) (.int .i64 0) (.int .i64 0) (.int .i64 0) := by rw [hz]; exact Q4.fresh _ _ _ _ _ _
                    have l7 : w3.heap.size ≤ y3.heap.size := M0.size
                    clear hz
                    refine hK.out _ _ ⟨n_.cell hHeld.1, n_.cell hHeld.2.1, n_.cell hHeld.2.2.1, n_.cell hHeld.2.2.2.1, n_.cell hHeld.2.2.2.2.1, n_.cell hHeld.2.2.2.2.2⟩ (fun hHeld => ?_)
                    clear hK K
                    (try simp only [Act.put, List.setIfInBounds_toArray, List.set_cons_zero, List.set_cons_succ])
                    replace q6 := q6.new n_
                    have sy4 := n_.size
                    replace M0 := M0.trans n_; clear n_
                    have t6y4 := q6.lt
                    have t7y4 := q7.lt
                    refine wpAnyH_ready (rs := [8]) (by kernel_rfl) (by simp) ?_
                    refine AllReadyH.cons (o := ⟨none, _, _, _, _, _⟩) rfl (fun K hK => ?_) AllReadyH.nil
                    obtain ⟨⟨x0, x1, x2, x3⟩, x4, x5, x6, x7⟩ := q6
                    go_simp
                    obtain ⟨y5, hz⟩ : ∃ z, z = ((((y4.setCell ⟨y2.heap.size, 0, none⟩ (.int .i64 u1s)).setCell ⟨y2.heap.size, 1, none⟩ (.int .i64 (C : Int))).setCell ⟨y2.heap.size, 2, none⟩ (.int .i64 (p2n : Int))).setCell ⟨y2.heap.size, 3, none⟩ (.int .i64 (g2n : Int))) := ⟨_, rfl⟩
                    rw [← hz]
                    have q6 : Q4 y5 y2.heap.size (.int .i64 u1s) (.int .i64 (C : Int)) (.int .i64 (p2n : Int)) (.int .i64 (g2n : Int)) := by rw [hz]; exact (((Q4.set0 ⟨⟨x0, x1, x2, x3⟩, x4, x5, x6, x7⟩ _).set1 _).set2 _).set3 _
                    replace q7 : Q4 y5 y3.heap.size (.int .i64 0) (.int .i64 0) (.int .i64 0) (.int .i64 0) := by rw [hz]; exact (((q7.far (by omega) _ _).far (by omega) _ _).far (by omega) _ _).far (by omega) _ _
                    have n_ : New w3 y5 := by rw [hz]; exact (((M0.setCell l6 _).setCell l6 _).setCell l6 _).setCell l6 _
                    refine hK.out _ _ ⟨by rw [hz]; exact World.cell_set (World.cell_set (World.cell_set (World.cell_set hHeld.1 (by simp; omega)) (by simp; omega)) (by simp; omega)) (by simp; omega), by rw [hz]; exact World.cell_set (World.cell_set (World.cell_set (World.cell_set hHeld.2.1 (by simp; omega)) (by simp; omega)) (by simp; omega)) (by simp; omega), by rw [hz]; exact World.cell_set (World.cell_set (World.cell_set (World.cell_set hHeld.2.2.1 (by simp; omega)) (by simp; omega)) (by simp; omega)) (by simp; omega), by rw [hz]; exact World.cell_set (World.cell_set (World.cell_set (World.cell_set hHeld.2.2.2.1 (by simp; omega)) (by simp; omega)) (by simp; omega)) (by simp; omega), by rw [hz]; exact World.cell_set (World.cell_set (World.cell_set (World.cell_set hHeld.2.2.2.2.1 (by simp; omega)) (by simp; omega)) (by simp; omega)) (by simp; omega), by rw [hz]; exact World.cell_set (World.cell_set (World.cell_set (World.cell_set hHeld.2.2.2.2.2 (by simp; omega)) (by simp; omega)) (by simp; omega)) (by simp; omega)⟩ (fun hHeld => ?_)
                    clear hK K hz x0 x1 x2 x3 x4 x5 x6 x7
                    (try simp only [Act.put, List.setIfInBounds_toArray, List.set_cons_zero, List.set_cons_succ])
                    replace M0 := n_; clear n_
                    refine wpAnyH_ready (rs := [9]) (by kernel_rfl) (by simp) ?_
                    refine AllReadyH.cons (o := ⟨none, _, _, _, _, _⟩) rfl (fun K hK => ?_) AllReadyH.nil
                    obtain ⟨⟨x0, x1, x2, x3⟩, x4, x5, x6, x7⟩ := q7
                    go_simp
                    obtain ⟨y6, hz⟩ : ∃ z, z = ((((y5.setCell ⟨y3.heap.size, 0, none⟩ (.int .i64 u2s)).setCell ⟨y3.heap.size, 1, none⟩ (.int .i64 (A : Int))).setCell ⟨y3.heap.size, 2, none⟩ (.int .i64 (g2n : Int))).setCell ⟨y3.heap.size, 3, none⟩ (.int .i64 (q2n : Int))) := ⟨_, rfl⟩
                    rw [← hz]
                    have q7 : Q4 y6 y3.heap.size (.int .i64 u2s) (.int .i64 (A : Int)) (.int .i64 (g2n : Int)) (.int .i64 (q2n : Int)) := by rw [hz]; exact (((Q4.set0 ⟨⟨x0, x1, x2, x3⟩, x4, x5, x6, x7⟩ _).set1 _).set2 _).set3 _
                    replace q6 : Q4 y6 y2.heap.size (.int .i64 u1s) (.int .i64 (C : Int)) (.int .i64 (p2n : Int)) (.int .i64 (g2n : Int)) := by rw [hz]; exact (((q6.far (by omega) _ _).far (by omega) _ _).far (by omega) _ _).far (by omega) _ _
                    have n_ : New w3 y6 := by rw [hz]; exact (((M0.setCell l7 _).setCell l7 _).setCell l7 _).setCell l7 _
                    refine hK.out _ _ ⟨by rw [hz]; exact World.cell_set (World.cell_set (World.cell_set (World.cell_set hHeld.1 (by simp; omega)) (by simp; omega)) (by simp; omega)) (by simp; omega), by rw [hz]; exact World.cell_set (World.cell_set (World.cell_set (World.cell_set hHeld.2.1 (by simp; omega)) (by simp; omega)) (by simp; omega)) (by simp; omega), by rw [hz]; exact World.cell_set (World.cell_set (World.cell_set (World.cell_set hHeld.2.2.1 (by simp; omega)) (by simp; omega)) (by simp; omega)) (by simp; omega), by rw [hz]; exact World.cell_set (World.cell_set (World.cell_set (World.cell_set hHeld.2.2.2.1 (by simp; omega)) (by simp; omega)) (by simp; omega)) (by simp; omega), by rw [hz]; exact World.cell_set (World.cell_set (World.cell_set (World.cell_set hHeld.2.2.2.2.1 (by simp; omega)) (by simp; omega)) (by simp; omega)) (by simp; omega), by rw [hz]; exact World.cell_set (World.cell_set (World.cell_set (World.cell_set hHeld.2.2.2.2.2 (by simp; omega)) (by simp; omega)) (by simp; omega)) (by simp; omega)⟩ (fun hHeld => ?_)
                    clear hK K hz x0 x1 x2 x3 x4 x5 x6 x7
                    (try simp only [Act.put, List.setIfInBounds_toArray, List.set_cons_zero, List.set_cons_succ])
                    replace M0 := n_; clear n_
                    refine wpAnyH_done (by kernel_rfl) ?_ _
                    go_wp2_with fail
                    go_meet
                    exact ⟨_, _, rfl, rfl, M0, l6, l7, q6, q7⟩
                  refine AllReadyH.cons (o := ⟨some 10, _, _, _, _, _⟩) rfl (fun K hK => ?_) AllReadyH.nil
                  go_simp
                  obtain ⟨y7, hz⟩ : ∃ z, z = y2.alloc (.cells #[.int .i64 0, .int .i64 0, .int .i64 0, .int .i64 0] 60) := ⟨_, rfl⟩
                  rw [← hz]
                  have n_ : New y2 y7 := by rw [hz]; exact (New.refl _).alloc _
                  have q7 : Q4 y7 y2.heap.size (.int .i64 0) (.int .i64 0) (.int .i64 0) (.int .i64 0) := by rw [hz]; exact Q4.fresh _ _ _ _ _ _
                  have l7 : w3.heap.size ≤ y2.heap.size := M0.size
                  clear hz
                  refine hK.out _ _ ⟨n_.cell hHeld.1, n_.cell hHeld.2.1, n_.cell hHeld.2.2.1, n_.cell hHeld.2.2.2.1, n_.cell hHeld.2.2.2.2.1, n_.cell hHeld.2.2.2.2.2⟩ (fun hHeld => ?_)
                  clear hK K
                  (try simp only [Act.put, List.setIfInBounds_toArray, List.set_cons_zero, List.set_cons_succ])
                  have sy7 := n_.size
                  replace M0 := M0.trans n_; clear n_
                  have t7y7 := q7.lt
                  refine wpAnyH_ready (rs := [6]) (by kernel_rfl) (by simp) ?_
                  refine AllReadyH.cons (o := ⟨some 9, _, _, _, _, _⟩) rfl (fun K hK => ?_) AllReadyH.nil
                  go_simp
                  obtain ⟨y8, hz⟩ : ∃ z, z = y7.alloc (.cells #[.int .i64 0, .int .i64 0, .int .i64 0, .int .i64 0] 60) := ⟨_, rfl⟩
                  rw [← hz]
                  have n_ : New y7 y8 := by rw [hz]; exact (New.refl _).alloc _
                  have q6 : Q4 y8 y7.heap.size (.int .i64 0) (.int .i64 0) (.int .i64 0) (.int .i64 0) := by rw [hz]; exact Q4.fresh _ _ _ _ _ _
                  have l6 : w3.heap.size ≤ y7.heap.size := M0.size
                  clear hz
                  refine hK.out _ _ ⟨n_.cell hHeld.1, n_.cell hHeld.2.1, n_.cell hHeld.2.2.1, n_.cell hHeld.2.2.2.1, n_.cell hHeld.2.2.2.2.1, n_.cell hHeld.2.2.2.2.2⟩ (fun hHeld => ?_)
                  clear hK K
                  (try simp only [Act.put, List.setIfInBounds_toArray, List.set_cons_zero, List.set_cons_succ])
                  replace q7 := q7.new n_
                  have sy8 := n_.size
                  replace M0 := M0.trans n_; clear n_
                  have t7y8 := q7.lt
                  have t6y8 := q6.lt
                  refine wpAnyH_ready (rs := [8]) (by kernel_rfl) (by simp) ?_
                  refine AllReadyH.cons (o := ⟨none, _, _, _, _, _⟩) rfl (fun K hK => ?_) AllReadyH.nil
                  obtain ⟨⟨x0, x1, x2, x3⟩, x4, x5, x6, x7⟩ := q6
                  go_simp
                  obtain ⟨y9, hz⟩ : ∃ z, z = ((((y8.setCell ⟨y7.heap.size, 0, none⟩ (.int .i64 u1s)).setCell ⟨y7.heap.size, 1, none⟩ (.int .i64 (C : Int))).setCell ⟨y7.heap.size, 2, none⟩ (.int .i64 (p2n : Int))).setCell ⟨y7.heap.size, 3, none⟩ (.int .i64 (g2n : Int))) := ⟨_, rfl⟩
                  rw [← hz]
                  have q6 : Q4 y9 y7.heap.size (.int .i64 u1s) (.int .i64 (C : Int)) (.int .i64 (p2n : Int)) (.int .i64 (g2n : Int)) := by rw [hz]; exact (((Q4.set0 ⟨⟨x0, x1, x2, x3⟩, x4, x5, x6, x7⟩ _).set1 _).set2 _).set3 _
                  replace q7 : Q4 y9 y2.heap.size (.int .i64 0) (.int .i64 0) (.int .i64 0) (.int .i64 0) := by rw [hz]; exact (((q7.far (by omega) _ _).far (by omega) _ _).far (by omega) _ _).far (by omega) _ _
                  have n_ : New w3 y9 := by rw [hz]; exact (((M0.setCell l6 _).setCell l6 _).setCell l6 _).setCell l6 _
                  refine hK.out _ _ ⟨by rw [hz]; exact World.cell_set (World.cell_set (World.cell_set (World.cell_set hHeld.1 (by simp; omega)) (by simp; omega)) (by simp; omega)) (by simp; omega), by rw [hz]; exact World.cell_set (World.cell_set (World.cell_set (World.cell_set hHeld.2.1 (by simp; omega)) (by simp; omega)) (by simp; omega)) (by simp; omega), by rw [hz]; exact World.cell_set (World.cell_set (World.cell_set (World.cell_set hHeld.2.2.1 (by simp; omega)) (by simp; omega)) (by simp; omega)) (by simp; omega), by rw [hz]; exact World.cell_set (World.cell_set (World.cell_set (World.cell_set hHeld.2.2.2.1 (by simp; omega)) (by simp; omega)) (by simp; omega)) (by simp; omega), by rw [hz]; exact World.cell_set (World.cell_set (World.cell_set (World.cell_set hHeld.2.2.2.2.1 (by simp; omega)) (by simp; omega)) (by simp; omega)) (by simp; omega), by rw [hz]; exact World.cell_set (World.cell_set (World.cell_set (World.cell_set hHeld.2.2.2.2.2 (by simp; omega)) (by simp; omega)) (by simp; omega)) (by simp; omega)⟩ (fun hHeld => ?_)
                  clear hK K hz x0 x1 x2 x3 x4 x5 x6 x7
                  (try simp only [Act.put, List.setIfInBounds_toArray, List.set_cons_zero, List.set_cons_succ])
                  replace M0 := n_; clear n_
                  refine wpAnyH_ready (rs := [9]) (by kernel_rfl) (by simp) ?_
                  refine AllReadyH.cons (o := ⟨none, _, _, _, _, _⟩) rfl (fun K hK => ?_) AllReadyH.nil
                  obtain ⟨⟨x0, x1, x2, x3⟩, x4, x5, x6, x7⟩ := q7
                  go_simp
                  obtain ⟨y10, hz⟩ : ∃ z, z = ((((y9.setCell ⟨y2.heap.size, 0, none⟩ (.int .i64 u2s)).setCell ⟨y2.heap.size, 1, none⟩ (.int .i64 (A : Int))).setCell ⟨y2.heap.size, 2, none⟩ (.int .i64 (g2n : Int))).setCell ⟨y2.heap.size, 3, none⟩ (.int .i64 (q2n : Int))) := ⟨_, rfl⟩
                  rw [← hz]
                  have q7 : Q4 y10 y2.heap.size (.int .i64 u2s) (.int .i64 (A : Int)) (.int .i64 (g2n : Int)) (.int .i64 (q2n : Int)) := by rw [hz]; exact (((Q4.set0 ⟨⟨x0, x1, x2, x3⟩, x4, x5, x6, x7⟩ _).set1 _).set2 _).set3 _
                  replace q6 : Q4 y10 y7.heap.size (.int .i64 u1s) (.int .i64 (C : Int)) (.int .i64 (p2n : Int)) (.int .i64 (g2n : Int)) := by rw [hz]; exact (((q6.far (by omega) _ _).far (by omega) _ _).far (by omega) _ _).far (by omega) _ _
                  have n_ : New w3 y10 := by rw [hz]; exact (((M0.setCell l7 _).setCell l7 _).setCell l7 _).setCell l7 _
                  refine hK.out _ _ ⟨by rw [hz]; exact World.cell_set (World.cell_set (World.cell_set (World.cell_set hHeld.1 (by simp; omega)) (by simp; omega)) (by simp; omega)) (by simp; omega), by rw [hz]; exact World.cell_set (World.cell_set (World.cell_set (World.cell_set hHeld.2.1 (by simp; omega)) (by simp; omega)) (by simp; omega)) (by simp; omega), by rw [hz]; exact World.cell_set (World.cell_set (World.cell_set (World.cell_set hHeld.2.2.1 (by simp; omega)) (by simp; omega)) (by simp; omega)) (by simp; omega), by rw [hz]; exact World.cell_set (World.cell_set (World.cell_set (World.cell_set hHeld.2.2.2.1 (by simp; omega)) (by simp; omega)) (by simp; omega)) (by simp; omega), by rw [hz]; exact World.cell_set (World.cell_set (World.cell_set (World.cell_set hHeld.2.2.2.2.1 (by simp; omega)) (by simp; omega)) (by simp; omega)) (by simp; omega), by rw [hz]; exact World.cell_set (World.cell_set (World.cell_set (World.cell_set hHeld.2.2.2.2.2 (by simp; omega)) (by simp; omega)) (by simp; omega)) (by simp; omega)⟩ (fun hHeld => ?_)
                  clear hK K hz x0 x1 x2 x3 x4 x5 x6 x7
                  (try simp only [Act.put, List.setIfInBounds_toArray, List.set_cons_zero, List.set_cons_succ])
                  replace M0 := n_; clear n_
                  refine wpAnyH_done (by kernel_rfl) ?_ _
                  go_wp2_with fail
                  go_meet
                  exact ⟨_, _, rfl, rfl, M0, l6, l7, q6, q7⟩
                refine AllReadyH.cons (o := ⟨some 9, _, _, _, _, _⟩) rfl (fun K hK => ?_) ?_
                · skip
                  go_simp
                  obtain ⟨y11, hz⟩ : ∃ z, z = y1.alloc (.cells #[.int .i64 0, .int .i64 0, .int .i64 0, .int .i64 0] 60) := ⟨_, rfl⟩
                  rw [← hz]
                  have n_ : New y1 y11 := by rw [hz]; exact (New.refl _).alloc _
                  have q6 : Q4 y11 y1.heap.size (.int .i64 0) (.int .i64 0) (.int .i64 0) (.int .i64 0) := by rw [hz]; exact Q4.fresh _ _ _ _ _ _
                  have l6 : w3.heap.size ≤ y1.heap.size := M0.size
                  clear hz
                  refine hK.out _ _ ⟨n_.cell hHeld.1, n_.cell hHeld.2.1, n_.cell hHeld.2.2.1, n_.cell hHeld.2.2.2.1, n_.cell hHeld.2.2.2.2.1, n_.cell hHeld.2.2.2.2.2⟩ (fun hHeld => ?_)
                  clear hK K
                  (try simp only [Act.put, List.setIfInBounds_toArray, List.set_cons_zero, List.set_cons_succ])
                  have sy11 := n_.size
                  replace M0 := M0.trans n_; clear n_
                  have t6y11 := q6.lt
                  refine wpAnyH_ready (rs := [5, 7]) (by kernel_rfl) (by simp) ?_
                  refine AllReadyH.cons (o := ⟨some 38, _, _, _, _, _⟩) rfl (fun K hK => ?_) ?_
                  · skip
                    go_simp
                    refine (saGap_any _ g1 (g2n : Int) q1 (q2n : Int) c1 c2 d1 d2).mono ?_
                    rintro e y12 ⟨rfl, n_⟩
                    rw [HU2.out, EA2.out]
                    refine hK.out _ _ ⟨n_.cell hHeld.1, n_.cell hHeld.2.1, n_.cell hHeld.2.2.1, n_.cell hHeld.2.2.2.1, n_.cell hHeld.2.2.2.2.1, n_.cell hHeld.2.2.2.2.2⟩ (fun hHeld => ?_)
                    clear hK K
                    (try simp only [Act.put, List.setIfInBounds_toArray, List.set_cons_zero, List.set_cons_succ])
                    replace q6 := q6.new n_
                    have sy12 := n_.size
                    replace M0 := M0.trans n_; clear n_
                    have t6y12 := q6.lt
                    refine wpAnyH_ready (rs := [7]) (by kernel_rfl) (by simp) ?_
                    refine AllReadyH.cons (o := ⟨some 10, _, _, _, _, _⟩) rfl (fun K hK => ?_) AllReadyH.nil
                    go_simp
                    obtain ⟨y13, hz⟩ : ∃ z, z = y12.alloc (.cells #[.int .i64 0, .int .i64 0, .int .i64 0, .int .i64 0] 60) := ⟨_, rfl⟩
                    rw [← hz]
                    have n_ : New y12 y13 := by rw [hz]; exact (New.refl _).alloc _
                    have q7 : Q4 y13 y12.heap.size (.int .i64 0) (.int .i64 0) (.int .i64 0) (.int .i64 0) := by rw [hz]; exact Q4.fresh _ _ _ _ _ _
                    have l7 : w3.heap.size ≤ y12.heap.size := M0.size
                    clear hz
                    refine hK.out _ _ ⟨n_.cell hHeld.1, n_.cell hHeld.2.1, n_.cell hHeld.2.2.1, n_.cell hHeld.2.2.2.1, n_.cell hHeld.2.2.2.2.1, n_.cell hHeld.2.2.2.2.2⟩ (fun hHeld => ?_)
                    clear hK K
                    (try simp only [Act.put, List.setIfInBounds_toArray, List.set_cons_zero, List.set_cons_succ])
                    replace q6 := q6.new n_
                    have sy13 := n_.size
                    replace M0 := M0.trans n_; clear n_
                    have t6y13 := q6.lt
                    have t7y13 := q7.lt
                    refine wpAnyH_ready (rs := [8]) (by kernel_rfl) (by simp) ?_
                    refine AllReadyH.cons (o := ⟨none, _, _, _, _, _⟩) rfl (fun K hK => ?_) AllReadyH.nil
                    obtain ⟨⟨x0, x1, x2, x3⟩, x4, x5, x6, x7⟩ := q6
                    go_simp
                    obtain ⟨y14, hz⟩ : ∃ z, z = ((((y13.setCell ⟨y1.heap.size, 0, none⟩ (.int .i64 u1s)).setCell ⟨y1.heap.size, 1, none⟩ (.int .i64 (C : Int))).setCell ⟨y1.heap.size, 2, none⟩ (.int .i64 (p2n : Int))).setCell ⟨y1.heap.size, 3, none⟩ (.int .i64 (g2n : Int))) := ⟨_, rfl⟩
                    rw [← hz]
                    have q6 : Q4 y14 y1.heap.size (.int .i64 u1s) (.int .i64 (C : Int)) (.int .i64 (p2n : Int)) (.int .i64 (g2n : Int)) := by rw [hz]; exact (((Q4.set0 ⟨⟨x0, x1, x2, x3⟩, x4, x5, x6, x7⟩ _).set1 _).set2 _).set3 _
                    replace q7 : Q4 y14 y12.heap.size (.int .i64 0) (.int .i64 0) (.int .i64 0) (.int .i64 0) := by rw [hz]; exact (((q7.far (by omega) _ _).far (by omega) _ _).far (by omega) _ _).far (by omega) _ _
                    have n_ : New w3 y14 := by rw [hz]; exact (((M0.setCell l6 _).setCell l6 _).setCell l6 _).setCell l6 _
                    refine hK.out _ _ ⟨by rw [hz]; exact World.cell_set (World.cell_set (World.cell_set (World.cell_set hHeld.1 (by simp; omega)) (by simp; omega)) (by simp; omega)) (by simp; omega), by rw [hz]; exact World.cell_set (World.cell_set (World.cell_set (World.cell_set hHeld.2.1 (by simp; omega)) (by simp; omega)) (by simp; omega)) (by simp; omega), by rw [hz]; exact World.cell_set (World.cell_set (World.cell_set (World.cell_set hHeld.2.2.1 (by simp; omega)) (by simp; omega)) (by simp; omega)) (by simp; omega), by rw [hz]; exact World.cell_set (World.cell_set (World.cell_set (World.cell_set hHeld.2.2.2.1 (by simp; omega)) (by simp; omega)) (by simp; omega)) (by simp; omega), by rw [hz]; exact World.cell_set (World.cell_set (World.cell_set (World.cell_set hHeld.2.2.2.2.1 (by simp; omega)) (by simp; omega)) (by simp; omega)) (by simp; omega), by rw [hz]; exact World.cell_set (World.cell_set (World.cell_set (World.cell_set hHeld.2.2.2.2.2 (by simp; omega)) (by simp; omega)) (by simp; omega)) (by simp; omega)⟩ (fun hHeld => ?_)
                    clear hK K hz x0 x1 x2 x3 x4 x5 x6 x7
                    (try simp only [Act.put, List.setIfInBounds_toArray, List.set_cons_zero, List.set_cons_succ])
                    replace M0 := n_; clear n_
                    refine wpAnyH_ready (rs := [9]) (by kernel_rfl) (by simp) ?_
                    refine AllReadyH.cons (o := ⟨none, _, _, _, _, _⟩) rfl (fun K hK => ?_) AllReadyH.nil
                    obtain ⟨⟨x0, x1, x2, x3⟩, x4, x5, x6, x7⟩ := q7
                    go_simp
                    obtain ⟨y15, hz⟩ : ∃ z, z = ((((y14.setCell ⟨y12.heap.size, 0, none⟩ (.int .i64 u2s)).setCell ⟨y12.heap.size, 1, none⟩ (.int .i64 (A : Int))).setCell ⟨y12.heap.size, 2, none⟩ (.int .i64 (g2n : Int))).setCell ⟨y12.heap.size, 3, none⟩ (.int .i64 (q2n : Int))) := ⟨_, rfl⟩
                    rw [← hz]
                    have q7 : Q4 y15 y12.heap.size (.int .i64 u2s) (.int .i64 (A : Int)) (.int .i64 (g2n : Int)) (.int .i64 (q2n : Int)) := by rw [hz]; exact (((Q4.set0 ⟨⟨x0, x1, x2, x3⟩, x4, x5, x6, x7⟩ _).set1 _).set2 _).set3 _
                    replace q6 : Q4 y15 y1.heap.size (.int .i64 u1s) (.int .i64 (C : Int)) (.int .i64 (p2n : Int)) (.int .i64 (g2n : Int)) := by rw [hz]; exact (((q6.far (by omega) _ _).far (by omega) _ _).far (by omega) _ _).far (by omega) _ _
                    have n_ : New w3 y15 := by rw [hz]; exact (((M0.setCell l7 _).setCell l7 _).setCell l7 _).setCell l7 _
                    refine hK.out _ _ ⟨by rw [hz]; exact World.cell_set (World.cell_set (World.cell_set (World.cell_set hHeld.1 (by simp; omega)) (by simp; omega)) (by simp; omega)) (by simp; omega), by rw [hz]; exact World.cell_set (World.cell_set (World.cell_set (World.cell_set hHeld.2.1 (by simp; omega)) (by simp; omega)) (by simp; omega)) (by simp; omega), by rw [hz]; exact World.cell_set (World.cell_set (World.cell_set (World.cell_set hHeld.2.2.1 (by simp; omega)) (by simp; omega)) (by simp; omega)) (by simp; omega), by rw [hz]; exact World.cell_set (World.cell_set (World.cell_set (World.cell_set hHeld.2.2.2.1 (by simp; omega)) (by simp; omega)) (by simp; omega)) (by simp; omega), by rw [hz]; exact World.cell_set (World.cell_set (World.cell_set (World.cell_set hHeld.2.2.2.2.1 (by simp; omega)) (by simp; omega)) (by simp; omega)) (by simp; omega), by rw [hz]; exact World.cell_set (World.cell_set (World.cell_set (World.cell_set hHeld.2.2.2.2.2 (by simp; omega)) (by simp; omega)) (by simp; omega)) (by simp; omega)⟩ (fun hHeld => ?_)
                    clear hK K hz x0 x1 x2 x3 x4 x5 x6 x7
                    (try simp only [Act.put, List.setIfInBounds_toArray, List.set_cons_zero, List.set_cons_succ])
                    replace M0 := n_; clear n_
                    refine wpAnyH_done (by kernel_rfl) ?_ _
                    go_wp2_with fail
                    go_meet
                    exact ⟨_, _, rfl, rfl, M0, l6, l7, q6, q7⟩
                  refine AllReadyH.cons (o := ⟨some 10, _, _, _, _, _⟩) rfl (fun K hK => ?_) AllReadyH.nil
                  go_simp
                  obtain ⟨y16, hz⟩ : ∃ z, z = y11.alloc (.cells #[.int .i64 0, .int .i64 0, .int .i64 0, .int .i64 0] 60) := ⟨_, rfl⟩
                  rw [← hz]
                  have n_ : New y11 y16 := by rw [hz]; exact (New.refl _).alloc _
                  have q7 : Q4 y16 y11.heap.size (.int .i64 0) (.int .i64 0) (.int .i64 0) (.int .i64 0) := by rw [hz]; exact Q4.fresh _ _ _ _ _ _
                  have l7 : w3.heap.size ≤ y11.heap.size := M0.size
                  clear hz
                  refine hK.out _ _ ⟨n_.cell hHeld.1, n_.cell hHeld.2.1, n_.cell hHeld.2.2.1, n_.cell hHeld.2.2.2.1, n_.cell hHeld.2.2.2.2.1, n_.cell hHeld.2.2.2.2.2⟩ (fun hHeld => ?_)
                  clear hK K
                  (try simp only [Act.put, List.setIfInBounds_toArray, List.set_cons_zero, List.set_cons_succ])
                  replace q6 := q6.new n_
                  have sy16 := n_.size
                  replace M0 := M0.trans n_; clear n_
                  have t6y16 := q6.lt
                  have t7y16 := q7.lt
                  refine wpAnyH_ready (rs := [5]) (by kernel_rfl) (by simp) ?_
                  refine AllReadyH.cons (o := ⟨some 38, _, _, _, _, _⟩) rfl (fun K hK => ?_) AllReadyH.nil
                  go_simp
                  refine (saGap_any _ g1 (g2n : Int) q1 (q2n : Int) c1 c2 d1 d2).mono ?_
                  rintro e y17 ⟨rfl, n_⟩
                  rw [HU2.out, EA2.out]
                  refine hK.out _ _ ⟨n_.cell hHeld.1, n_.cell hHeld.2.1, n_.cell hHeld.2.2.1, n_.cell hHeld.2.2.2.1, n_.cell hHeld.2.2.2.2.1, n_.cell hHeld.2.2.2.2.2⟩ (fun hHeld => ?_)
                  clear hK K
                  (try simp only [Act.put, List.setIfInBounds_toArray, List.set_cons_zero, List.set_cons_succ])
                  replace q6 := q6.new n_
                  replace q7 := q7.new n_
                  have sy17 := n_.size
                  replace M0 := M0.trans n_; clear n_
                  have t6y17 := q6.lt
                  have t7y17 := q7.lt
                  refine wpAnyH_ready (rs := [8]) (by kernel_rfl) (by simp) ?_
                  refine AllReadyH.cons (o := ⟨none, _, _, _, _, _⟩) rfl (fun K hK => ?_) AllReadyH.nil
                  obtain ⟨⟨x0, x1, x2, x3⟩, x4, x5, x6, x7⟩ := q6
                  go_simp
                  obtain ⟨y18, hz⟩ : ∃ z, z = ((((y17.setCell ⟨y1.heap.size, 0, none⟩ (.int .i64 u1s)).setCell ⟨y1.heap.size, 1, none⟩ (.int .i64 (C : Int))).setCell ⟨y1.heap.size, 2, none⟩ (.int .i64 (p2n : Int))).setCell ⟨y1.heap.size, 3, none⟩ (.int .i64 (g2n : Int))) := ⟨_, rfl⟩
                  rw [← hz]
                  have q6 : Q4 y18 y1.heap.size (.int .i64 u1s) (.int .i64 (C : Int)) (.int .i64 (p2n : Int)) (.int .i64 (g2n : Int)) := by rw [hz]; exact (((Q4.set0 ⟨⟨x0, x1, x2, x3⟩, x4, x5, x6, x7⟩ _).set1 _).set2 _).set3 _
                  replace q7 : Q4 y18 y11.heap.size (.int .i64 0) (.int .i64 0) (.int .i64 0) (.int .i64 0) := by rw [hz]; exact (((q7.far (by omega) _ _).far (by omega) _ _).far (by omega) _ _).far (by omega) _ _
                  have n_ : New w3 y18 := by rw [hz]; exact (((M0.setCell l6 _).setCell l6 _).setCell l6 _).setCell l6 _
                  refine hK.out _ _ ⟨by rw [hz]; exact World.cell_set (World.cell_set (World.cell_set (World.cell_set hHeld.1 (by simp; omega)) (by simp; omega)) (by simp; omega)) (by simp; omega), by rw [hz]; exact World.cell_set (World.cell_set (World.cell_set (World.cell_set hHeld.2.1 (by simp; omega)) (by simp; omega)) (by simp; omega)) (by simp; omega), by rw [hz]; exact World.cell_set (World.cell_set (World.cell_set (World.cell_set hHeld.2.2.1 (by simp; omega)) (by simp; omega)) (by simp; omega)) (by simp; omega), by rw [hz]; exact World.cell_set (World.cell_set (World.cell_set (World.cell_set hHeld.2.2.2.1 (by simp; omega)) (by simp; omega)) (by simp; omega)) (by simp; omega), by rw [hz]; exact World.cell_set (World.cell_set (World.cell_set (World.cell_set hHeld.2.2.2.2.1 (by simp; omega)) (by simp; omega)) (by simp; omega)) (by simp; omega), by rw [hz]; exact World.cell_set (World.cell_set (World.cell_set (World.cell_set hHeld.2.2.2.2.2 (by simp; omega)) (by simp; omega)) (by simp; omega)) (by simp; omega)⟩ (fun hHeld => ?_)
                  clear hK K hz x0 x1 x2 x3 x4 x5 x6 x7
                  (try simp only [Act.put, List.setIfInBounds_toArray, List.set_cons_zero, List.set_cons_succ])
                  replace M0 := n_; clear n_
                  refine wpAnyH_ready (rs := [9]) (by kernel_rfl) (by simp) ?_
                  refine AllReadyH.cons (o := ⟨none, _, _, _, _, _⟩) rfl (fun K hK => ?_) AllReadyH.nil
                  obtain ⟨⟨x0, x1, x2, x3⟩, x4, x5, x6, x7⟩ := q7
                  go_simp
                  obtain ⟨y19, hz⟩ : ∃ z, z = ((((y18.setCell ⟨y11.heap.size, 0, none⟩ (.int .i64 u2s)).setCell ⟨y11.heap.size, 1, none⟩ (.int .i64 (A : Int))).setCell ⟨y11.heap.size, 2, none⟩ (.int .i64 (g2n : Int))).setCell ⟨y11.heap.size, 3, none⟩ (.int .i64 (q2n : Int))) := ⟨_, rfl⟩
                  rw [← hz]
                  have q7 : Q4 y19 y11.heap.size (.int .i64 u2s) (.int .i64 (A : Int)) (.int .i64 (g2n : Int)) (.int .i64 (q2n : Int)) := by rw [hz]; exact (((Q4.set0 ⟨⟨x0, x1, x2, x3⟩, x4, x5, x6, x7⟩ _).set1 _).set2 _).set3 _
                  replace q6 : Q4 y19 y1.heap.size (.int .i64 u1s) (.int .i64 (C : Int)) (.int .i64 (p2n : Int)) (.int .i64 (g2n : Int)) := by rw [hz]; exact (((q6.far (by omega) _ _).far (by omega) _ _).far (by omega) _ _).far (by omega) _ _
                  have n_ : New w3 y19 := by rw [hz]; exact (((M0.setCell l7 _).setCell l7 _).setCell l7 _).setCell l7 _
                  refine hK.out _ _ ⟨by rw [hz]; exact World.cell_set (World.cell_set (World.cell_set (World.cell_set hHeld.1 (by simp; omega)) (by simp; omega)) (by simp; omega)) (by simp; omega), by rw [hz]; exact World.cell_set (World.cell_set (World.cell_set (World.cell_set hHeld.2.1 (by simp; omega)) (by simp; omega)) (by simp; omega)) (by simp; omega), by rw [hz]; exact World.cell_set (World.cell_set (World.cell_set (World.cell_set hHeld.2.2.1 (by simp; omega)) (by simp; omega)) (by simp; omega)) (by simp; omega), by rw [hz]; exact World.cell_set (World.cell_set (World.cell_set (World.cell_set hHeld.2.2.2.1 (by simp; omega)) (by simp; omega)) (by simp; omega)) (by simp; omega), by rw [hz]; exact World.cell_set (World.cell_set (World.cell_set (World.cell_set hHeld.2.2.2.2.1 (by simp; omega)) (by simp; omega)) (by simp; omega)) (by simp; omega), by rw [hz]; exact World.cell_set (World.cell_set (World.cell_set (World.cell_set hHeld.2.2.2.2.2 (by simp; omega)) (by simp; omega)) (by simp; omega)) (by simp; omega)⟩ (fun hHeld => ?_)
                  clear hK K hz x0 x1 x2 x3 x4 x5 x6 x7
                  (try simp only [Act.put, List.setIfInBounds_toArray, List.set_cons_zero, List.set_cons_succ])
                  replace M0 := n_; clear n_
                  refine wpAnyH_done (by kernel_rfl) ?_ _
                  go_wp2_with fail
                  go_meet
                  exact ⟨_, _, rfl, rfl, M0, l6, l7, q6, q7⟩
                refine AllReadyH.cons (o := ⟨some 10, _, _, _, _, _⟩) rfl (fun K hK => ?_) AllReadyH.nil
                go_simp
                obtain ⟨y20, hz⟩ : ∃ z, z = y1.alloc (.cells #[.int .i64 0, .int .i64 0, .int .i64 0, .int .i64 0] 60) := ⟨_, rfl⟩
                rw [← hz]
                have n_ : New y1 y20 := by rw [hz]; exact (New.refl _).alloc _
                have q7 : Q4 y20 y1.heap.size (.int .i64 0) (.int .i64 0) (.int .i64 0) (.int .i64 0) := by rw [hz]; exact Q4.fresh _ _ _ _ _ _
                have l7 : w3.heap.size ≤ y1.heap.size := M0.size
                clear hz
                refine hK.out _ _ ⟨n_.cell hHeld.1, n_.cell hHeld.2.1, n_.cell hHeld.2.2.1, n_.cell hHeld.2.2.2.1, n_.cell hHeld.2.2.2.2.1, n_.cell hHeld.2.2.2.2.2⟩ (fun hHeld => ?_)
                clear hK K
                (try simp only [Act.put, List.setIfInBounds_toArray, List.set_cons_zero, List.set_cons_succ])
                have sy20 := n_.size
                replace M0 := M0.trans n_; clear n_
                have t7y20 := q7.lt
                refine wpAnyH_ready (rs := [5, 6]) (by kernel_rfl) (by simp) ?_
                refine AllReadyH.cons (o := ⟨some 38, _, _, _, _, _⟩) rfl (fun K hK => ?_) ?_
                · skip
                  go_simp
                  refine (saGap_any _ g1 (g2n : Int) q1 (q2n : Int) c1 c2 d1 d2).mono ?_
                  rintro e y21 ⟨rfl, n_⟩
                  rw [HU2.out, EA2.out]
                  refine hK.out _ _ ⟨n_.cell hHeld.1, n_.cell hHeld.2.1, n_.cell hHeld.2.2.1, n_.cell hHeld.2.2.2.1, n_.cell hHeld.2.2.2.2.1, n_.cell hHeld.2.2.2.2.2⟩ (fun hHeld => ?_)
                  clear hK K
                  (try simp only [Act.put, List.setIfInBounds_toArray, List.set_cons_zero, List.set_cons_succ])
                  replace q7 := q7.new n_
                  have sy21 := n_.size
                  replace M0 := M0.trans n_; clear n_
                  have t7y21 := q7.lt
                  refine wpAnyH_ready (rs := [6]) (by kernel_rfl) (by simp) ?_
                  refine AllReadyH.cons (o := ⟨some 9, _, _, _, _, _⟩) rfl (fun K hK => ?_) AllReadyH.nil
                  go_simp
                  obtain ⟨y22, hz⟩ : ∃ z, z = y21.alloc (.cells #[.int .i64 0, .int .i64 0, .int .i64 0, .int .i64 0] 60) := ⟨_, rfl⟩
                  rw [← hz]
                  have n_ : New y21 y22 := by rw [hz]; exact (New.refl _).alloc _
                  have q6 : Q4 y22 y21.heap.size (.int .i64 0) (.int .i64 0) (.int .i64 0) (.int .i64 0) := by rw [hz]; exact Q4.fresh _ _ _ _ _ _
                  have l6 : w3.heap.size ≤ y21.heap.size := M0.size
                  clear hz
                  refine hK.out _ _ ⟨n_.cell hHeld.1, n_.cell hHeld.2.1, n_.cell hHeld.2.2.1, n_.cell hHeld.2.2.2.1, n_.cell hHeld.2.2.2.2.1, n_.cell hHeld.2.2.2.2.2⟩ (fun hHeld => ?_)
                  clear hK K
                  (try simp only [Act.put, List.setIfInBounds_toArray, List.set_cons_zero, List.set_cons_succ])
                  replace q7 := q7.new n_
                  have sy22 := n_.size
                  replace M0 := M0.trans n_; clear n_
                  have t7y22 := q7.lt
                  have t6y22 := q6.lt
                  refine wpAnyH_ready (rs := [8]) (by kernel_rfl) (by simp) ?_
                  refine AllReadyH.cons (o := ⟨none, _, _, _, _, _⟩) rfl (fun K hK => ?_) AllReadyH.nil
                  obtain ⟨⟨x0, x1, x2, x3⟩, x4, x5, x6, x7⟩ := q6
                  go_simp
                  obtain ⟨y23, hz⟩ : ∃ z, z = ((((y22.setCell ⟨y21.heap.size, 0, none⟩ (.int .i64 u1s)).setCell ⟨y21.heap.size, 1, none⟩ (.int .i64 (C : Int))).setCell ⟨y21.heap.size, 2, none⟩ (.int .i64 (p2n : Int))).setCell ⟨y21.heap.size, 3, none⟩ (.int .i64 (g2n : Int))) := ⟨_, rfl⟩
                  rw [← hz]
                  have q6 : Q4 y23 y21.heap.size (.int .i64 u1s) (.int .i64 (C : Int)) (.int .i64 (p2n : Int)) (.int .i64 (g2n : Int)) := by rw [hz]; exact (((Q4.set0 ⟨⟨x0, x1, x2, x3⟩, x4, x5, x6, x7⟩ _).set1 _).set2 _).set3 _
                  replace q7 : Q4 y23 y1.heap.size (.int .i64 0) (.int .i64 0) (.int .i64 0) (.int .i64 0) := by rw [hz]; exact (((q7.far (by omega) _ _).far (by omega) _ _).far (by omega) _ _).far (by omega) _ _
                  have n_ : New w3 y23 := by rw [hz]; exact (((M0.setCell l6 _).setCell l6 _).setCell l6 _).setCell l6 _
                  refine hK.out _ _ ⟨by rw [hz]; exact World.cell_set (World.cell_set (World.cell_set (World.cell_set hHeld.1 (by simp; omega)) (by simp; omega)) (by simp; omega)) (by simp; omega), by rw [hz]; exact World.cell_set (World.cell_set (World.cell_set (World.cell_set hHeld.2.1 (by simp; omega)) (by simp; omega)) (by simp; omega)) (by simp; omega), by rw [hz]; exact World.cell_set (World.cell_set (World.cell_set (World.cell_set hHeld.2.2.1 (by simp; omega)) (by simp; omega)) (by simp; omega)) (by simp; omega), by rw [hz]; exact World.cell_set (World.cell_set (World.cell_set (World.cell_set hHeld.2.2.2.1 (by simp; omega)) (by simp; omega)) (by simp; omega)) (by simp; omega), by rw [hz]; exact World.cell_set (World.cell_set (World.cell_set (World.cell_set hHeld.2.2.2.2.1 (by simp; omega)) (by simp; omega)) (by simp; omega)) (by simp; omega), by rw [hz]; exact World.cell_set (World.cell_set (World.cell_set (World.cell_set hHeld.2.2.2.2.2 (by simp; omega)) (by simp; omega)) (by simp; omega)) (by simp; omega)⟩ (fun hHeld => ?_)
                  clear hK K hz x0 x1 x2 x3 x4 x5 x6 x7
                  (try simp only [Act.put, List.setIfInBounds_toArray, List.set_cons_zero, List.set_cons_succ])
                  replace M0 := n_; clear n_
                  refine wpAnyH_ready (rs := [9]) (by kernel_rfl) (by simp) ?_
                  refine AllReadyH.cons (o := ⟨none, _, _, _, _, _⟩) rfl (fun K hK => ?_) AllReadyH.nil
                  obtain ⟨⟨x0, x1, x2, x3⟩, x4, x5, x6, x7⟩ := q7
                  go_simp
                  obtain ⟨y24, hz⟩ : ∃ z, z = ((((y23.setCell ⟨y1.heap.size, 0, none⟩ (.int .i64 u2s)).setCell ⟨y1.heap.size, 1, none⟩ (.int .i64 (A : Int))).setCell ⟨y1.heap.size, 2, none⟩ (.int .i64 (g2n : Int))).setCell ⟨y1.heap.size, 3, none⟩ (.int .i64 (q2n : Int))) := ⟨_, rfl⟩
                  rw [← hz]
                  have q7 : Q4 y24 y1.heap.size (.int .i64 u2s) (.int .i64 (A : Int)) (.int .i64 (g2n : Int)) (.int .i64 (q2n : Int)) := by rw [hz]; exact (((Q4.set0 ⟨⟨x0, x1, x2, x3⟩, x4, x5, x6, x7⟩ _).set1 _).set2 _).set3 _
                  replace q6 : Q4 y24 y21.heap.size (.int .i64 u1s) (.int .i64 (C : Int)) (.int .i64 (p2n : Int)) (.int .i64 (g2n : Int)) := by rw [hz]; exact (((q6.far (by omega) _ _).far (by omega) _ _).far (by omega) _ _).far (by omega) _ _
                  have n_ : New w3 y24 := by rw [hz]; exact (((M0.setCell l7 _).setCell l7 _).setCell l7 _).setCell l7 _
                  refine hK.out _ _ ⟨by rw [hz]; exact World.cell_set (World.cell_set (World.cell_set (World.cell_set hHeld.1 (by simp; omega)) (by simp; omega)) (by simp; omega)) (by simp; omega), by rw [hz]; exact World.cell_set (World.cell_set (World.cell_set (World.cell_set hHeld.2.1 (by simp; omega)) (by simp; omega)) (by simp; omega)) (by simp; omega), by rw [hz]; exact World.cell_set (World.cell_set (World.cell_set (World.cell_set hHeld.2.2.1 (by simp; omega)) (by simp; omega)) (by simp; omega)) (by simp; omega), by rw [hz]; exact World.cell_set (World.cell_set (World.cell_set (World.cell_set hHeld.2.2.2.1 (by simp; omega)) (by simp; omega)) (by simp; omega)) (by simp; omega), by rw [hz]; exact World.cell_set (World.cell_set (World.cell_set (World.cell_set hHeld.2.2.2.2.1 (by simp; omega)) (by simp; omega)) (by simp; omega)) (by simp; omega), by rw [hz]; exact World.cell_set (World.cell_set (World.cell_set (World.cell_set hHeld.2.2.2.2.2 (by simp; omega)) (by simp; omega)) (by simp; omega)) (by simp; omega)⟩ (fun hHeld => ?_)
                  clear hK K hz x0 x1 x2 x3 x4 x5 x6 x7
                  (try simp only [Act.put, List.setIfInBounds_toArray, List.set_cons_zero, List.set_cons_succ])
                  replace M0 := n_; clear n_
                  refine wpAnyH_done (by kernel_rfl) ?_ _
                  go_wp2_with fail
                  go_meet
                  exact ⟨_, _, rfl, rfl, M0, l6, l7, q6, q7⟩
                refine AllReadyH.cons (o := ⟨some 9, _, _, _, _, _⟩) rfl (fun K hK => ?_) AllReadyH.nil
                go_simp
                obtain ⟨y25, hz⟩ : ∃ z, z = y20.alloc (.cells #[.int .i64 0, .int .i64 0, .int .i64 0, .int .i64 0] 60) := ⟨_, rfl⟩
                rw [← hz]
                have n_ : New y20 y25 := by rw [hz]; exact (New.refl _).alloc _
                have q6 : Q4 y25 y20.heap.size (.int .i64 0) (.int .i64 0) (.int .i64 0) (.int .i64 0) := by rw [hz]; exact Q4.fresh _ _ _ _ _ _
                have l6 : w3.heap.size ≤ y20.heap.size := M0.size
                clear hz
                refine hK.out _ _ ⟨n_.cell hHeld.1, n_.cell hHeld.2.1, n_.cell hHeld.2.2.1, n_.cell hHeld.2.2.2.1, n_.cell hHeld.2.2.2.2.1, n_.cell hHeld.2.2.2.2.2⟩ (fun hHeld => ?_)
                clear hK K
                (try simp only [Act.put, List.setIfInBounds_toArray, List.set_cons_zero, List.set_cons_succ])
                replace q7 := q7.new n_
                have sy25 := n_.size
                replace M0 := M0.trans n_; clear n_
                have t7y25 := q7.lt
                have t6y25 := q6.lt
                refine wpAnyH_ready (rs := [5]) (by kernel_rfl) (by simp) ?_
                refine AllReadyH.cons (o := ⟨some 38, _, _, _, _, _⟩) rfl (fun K hK => ?_) AllReadyH.nil
                go_simp
                refine (saGap_any _ g1 (g2n : Int) q1 (q2n : Int) c1 c2 d1 d2).mono ?_
                rintro e y26 ⟨rfl, n_⟩
                rw [HU2.out, EA2.out]
                refine hK.out _ _ ⟨n_.cell hHeld.1, n_.cell hHeld.2.1, n_.cell hHeld.2.2.1, n_.cell hHeld.2.2.2.1, n_.cell hHeld.2.2.2.2.1, n_.cell hHeld.2.2.2.2.2⟩ (fun hHeld => ?_)
                clear hK K
                (try simp only [Act.put, List.setIfInBounds_toArray, List.set_cons_zero, List.set_cons_succ])
                replace q6 := q6.new n_
                replace q7 := q7.new n_
                have sy26 := n_.size
                replace M0 := M0.trans n_; clear n_
                have t7y26 := q7.lt
                have t6y26 := q6.lt
                refine wpAnyH_ready (rs := [8]) (by kernel_rfl) (by simp) ?_
                refine AllReadyH.cons (o := ⟨none, _, _, _, _, _⟩) rfl (fun K hK => ?_) AllReadyH.nil
                obtain ⟨⟨x0, x1, x2, x3⟩, x4, x5, x6, x7⟩ := q6
                go_simp
                obtain ⟨y27, hz⟩ : ∃ z, z = ((((y26.setCell ⟨y20.heap.size, 0, none⟩ (.int .i64 u1s)).setCell ⟨y20.heap.size, 1, none⟩ (.int .i64 (C : Int))).setCell ⟨y20.heap.size, 2, none⟩ (.int .i64 (p2n : Int))).setCell ⟨y20.heap.size, 3, none⟩ (.int .i64 (g2n : Int))) := ⟨_, rfl⟩
                rw [← hz]
                have q6 : Q4 y27 y20.heap.size (.int .i64 u1s) (.int .i64 (C : Int)) (.int .i64 (p2n : Int)) (.int .i64 (g2n : Int)) := by rw [hz]; exact (((Q4.set0 ⟨⟨x0, x1, x2, x3⟩, x4, x5, x6, x7⟩ _).set1 _).set2 _).set3 _
                replace q7 : Q4 y27 y1.heap.size (.int .i64 0) (.int .i64 0) (.int .i64 0) (.int .i64 0) := by rw [hz]; exact (((q7.far (by omega) _ _).far (by omega) _ _).far (by omega) _ _).far (by omega) _ _
                have n_ : New w3 y27 := by rw [hz]; exact (((M0.setCell l6 _).setCell l6 _).setCell l6 _).setCell l6 _
                refine hK.out _ _ ⟨by rw [hz]; exact World.cell_set (World.cell_set (World.cell_set (World.cell_set hHeld.1 (by simp; omega)) (by simp; omega)) (by simp; omega)) (by simp; omega), by rw [hz]; exact World.cell_set (World.cell_set (World.cell_set (World.cell_set hHeld.2.1 (by simp; omega)) (by simp; omega)) (by simp; omega)) (by simp; omega), by rw [hz]; exact World.cell_set (World.cell_set (World.cell_set (World.cell_set hHeld.2.2.1 (by simp; omega)) (by simp; omega)) (by simp; omega)) (by simp; omega), by rw [hz]; exact World.cell_set (World.cell_set (World.cell_set (World.cell_set hHeld.2.2.2.1 (by simp; omega)) (by simp; omega)) (by simp; omega)) (by simp; omega), by rw [hz]; exact World.cell_set (World.cell_set (World.cell_set (World.cell_set hHeld.2.2.2.2.1 (by simp; omega)) (by simp; omega)) (by simp; omega)) (by simp; omega), by rw [hz]; exact World.cell_set (World.cell_set (World.cell_set (World.cell_set hHeld.2.2.2.2.2 (by simp; omega)) (by simp; omega)) (by simp; omega)) (by simp; omega)⟩ (fun hHeld => ?_)
                clear hK K hz x0 x1 x2 x3 x4 x5 x6 x7
                (try simp only [Act.put, List.setIfInBounds_toArray, List.set_cons_zero, List.set_cons_succ])
                replace M0 := n_; clear n_
                refine wpAnyH_ready (rs := [9]) (by kernel_rfl) (by simp) ?_
                refine AllReadyH.cons (o := ⟨none, _, _, _, _, _⟩) rfl (fun K hK => ?_) AllReadyH.nil
                obtain ⟨⟨x0, x1, x2, x3⟩, x4, x5, x6, x7⟩ := q7
                go_simp
                obtain ⟨y28, hz⟩ : ∃ z, z = ((((y27.setCell ⟨y1.heap.size, 0, none⟩ (.int .i64 u2s)).setCell ⟨y1.heap.size, 1, none⟩ (.int .i64 (A : Int))).setCell ⟨y1.heap.size, 2, none⟩ (.int .i64 (g2n : Int))).setCell ⟨y1.heap.size, 3, none⟩ (.int .i64 (q2n : Int))) := ⟨_, rfl⟩
                rw [← hz]
                have q7 : Q4 y28 y1.heap.size (.int .i64 u2s) (.int .i64 (A : Int)) (.int .i64 (g2n : Int)) (.int .i64 (q2n : Int)) := by rw [hz]; exact (((Q4.set0 ⟨⟨x0, x1, x2, x3⟩, x4, x5, x6, x7⟩ _).set1 _).set2 _).set3 _
                replace q6 : Q4 y28 y20.heap.size (.int .i64 u1s) (.int .i64 (C : Int)) (.int .i64 (p2n : Int)) (.int .i64 (g2n : Int)) := by rw [hz]; exact (((q6.far (by omega) _ _).far (by omega) _ _).far (by omega) _ _).far (by omega) _ _
                have n_ : New w3 y28 := by rw [hz]; exact (((M0.setCell l7 _).setCell l7 _).setCell l7 _).setCell l7 _
                refine hK.out _ _ ⟨by rw [hz]; exact World.cell_set (World.cell_set (World.cell_set (World.cell_set hHeld.1 (by simp; omega)) (by simp; omega)) (by simp; omega)) (by simp; omega), by rw [hz]; exact World.cell_set (World.cell_set (World.cell_set (World.cell_set hHeld.2.1 (by simp; omega)) (by simp; omega)) (by simp; omega)) (by simp; omega), by rw [hz]; exact World.cell_set (World.cell_set (World.cell_set (World.cell_set hHeld.2.2.1 (by simp; omega)) (by simp; omega)) (by simp; omega)) (by simp; omega), by rw [hz]; exact World.cell_set (World.cell_set (World.cell_set (World.cell_set hHeld.2.2.2.1 (by simp; omega)) (by simp; omega)) (by simp; omega)) (by simp; omega), by rw [hz]; exact World.cell_set (World.cell_set (World.cell_set (World.cell_set hHeld.2.2.2.2.1 (by simp; omega)) (by simp; omega)) (by simp; omega)) (by simp; omega), by rw [hz]; exact World.cell_set (World.cell_set (World.cell_set (World.cell_set hHeld.2.2.2.2.2 (by simp; omega)) (by simp; omega)) (by simp; omega)) (by simp; omega)⟩ (fun hHeld => ?_)
                clear hK K hz x0 x1 x2 x3 x4 x5 x6 x7
                (try simp only [Act.put, List.setIfInBounds_toArray, List.set_cons_zero, List.set_cons_succ])
                replace M0 := n_; clear n_
                refine wpAnyH_done (by kernel_rfl) ?_ _
                go_wp2_with fail
                go_meet
                exact ⟨_, _, rfl, rfl, M0, l6, l7, q6, q7⟩
              refine AllReadyH.cons (o := ⟨some 9, _, _, _, _, _⟩) rfl (fun K hK => ?_) ?_
              · skip
                go_simp
                obtain ⟨y29, hz⟩ : ∃ z, z = y0.alloc (.cells #[.int .i64 0, .int .i64 0, .int .i64 0, .int .i64 0] 60) := ⟨_, rfl⟩
                rw [← hz]
                have n_ : New y0 y29 := by rw [hz]; exact (New.refl _).alloc _
                have q6 : Q4 y29 y0.heap.size (.int .i64 0) (.int .i64 0) (.int .i64 0) (.int .i64 0) := by rw [hz]; exact Q4.fresh _ _ _ _ _ _
                have l6 : w3.heap.size ≤ y0.heap.size := M0.size
                clear hz
                refine hK.out _ _ ⟨n_.cell hHeld.1, n_.cell hHeld.2.1, n_.cell hHeld.2.2.1, n_.cell hHeld.2.2.2.1, n_.cell hHeld.2.2.2.2.1, n_.cell hHeld.2.2.2.2.2⟩ (fun hHeld => ?_)
                clear hK K
                (try simp only [Act.put, List.setIfInBounds_toArray, List.set_cons_zero, List.set_cons_succ])
                have sy29 := n_.size
                replace M0 := M0.trans n_; clear n_
                have t6y29 := q6.lt
                refine wpAnyH_ready (rs := [2, 7]) (by kernel_rfl) (by simp) ?_
                refine AllReadyH.cons (o := ⟨some 35, _, _, _, _, _⟩) rfl (fun K hK => ?_) ?_
                · skip
                  go_simp
                  refine (saGap_any _ p1 (p2n : Int) g1 (g2n : Int) a1 a2 b1 b2).mono ?_
                  rintro e y30 ⟨rfl, n_⟩
                  rw [HU1.out, EC.out]
                  refine hK.out _ _ ⟨n_.cell hHeld.1, n_.cell hHeld.2.1, n_.cell hHeld.2.2.1, n_.cell hHeld.2.2.2.1, n_.cell hHeld.2.2.2.2.1, n_.cell hHeld.2.2.2.2.2⟩ (fun hHeld => ?_)
                  clear hK K
                  (try simp only [Act.put, List.setIfInBounds_toArray, List.set_cons_zero, List.set_cons_succ])
                  replace q6 := q6.new n_
                  have sy30 := n_.size
                  replace M0 := M0.trans n_; clear n_
                  have t6y30 := q6.lt
                  refine wpAnyH_ready (rs := [5, 7]) (by kernel_rfl) (by simp) ?_
                  refine AllReadyH.cons (o := ⟨some 38, _, _, _, _, _⟩) rfl (fun K hK => ?_) ?_
                  · skip
                    go_simp
                    refine (saGap_any _ g1 (g2n : Int) q1 (q2n : Int) c1 c2 d1 d2).mono ?_
                    rintro e y31 ⟨rfl, n_⟩
                    rw [HU2.out, EA2.out]
                    refine hK.out _ _ ⟨n_.cell hHeld.1, n_.cell hHeld.2.1, n_.cell hHeld.2.2.1, n_.cell hHeld.2.2.2.1, n_.cell hHeld.2.2.2.2.1, n_.cell hHeld.2.2.2.2.2⟩ (fun hHeld => ?_)
                    clear hK K
                    (try simp only [Act.put, List.setIfInBounds_toArray, List.set_cons_zero, List.set_cons_succ])
                    replace q6 := q6.new n_
                    have sy31 := n_.size
                    replace M0 := M0.trans n_; clear n_
                    have t6y31 := q6.lt
                    refine wpAnyH_ready (rs := [7]) (by kernel_rfl) (by simp) ?_
                    refine AllReadyH.cons (o := ⟨some 10, _, _, _, _, _⟩) rfl (fun K hK => ?_) AllReadyH.nil
                    go_simp
                    obtain ⟨y32, hz⟩ : ∃ z, z = y31.alloc (.cells #[.int .i64 0, .int .i64 0, .int .i64 0, .int .i64 0] 60) := ⟨_, rfl⟩
                    rw [← hz]
                    have n_ : New y31 y32 := by rw [hz]; exact (New.refl _).alloc _
                    have q7 : Q4 y32 y31.heap.size (.int .i64 0) (.int .i64 0) (.int .i64 0) (.int .i64 0) := by rw [hz]; exact Q4.fresh _ _ _ _ _ _
                    have l7 : w3.heap.size ≤ y31.heap.size := M0.size
                    clear hz
                    refine hK.out _ _ ⟨n_.cell hHeld.1, n_.cell hHeld.2.1, n_.cell hHeld.2.2.1, n_.cell hHeld.2.2.2.1, n_.cell hHeld.2.2.2.2.1, n_.cell hHeld.2.2.2.2.2⟩ (fun hHeld => ?_)
                    clear hK K
                    (try simp only [Act.put, List.setIfInBounds_toArray, List.set_cons_zero, List.set_cons_succ])
                    replace q6 := q6.new n_
                    have sy32 := n_.size
                    replace M0 := M0.trans n_; clear n_
                    have t6y32 := q6.lt
                    have t7y32 := q7.lt
                    refine wpAnyH_ready (rs := [8]) (by kernel_rfl) (by simp) ?_
                    refine AllReadyH.cons (o := ⟨none, _, _, _, _, _⟩) rfl (fun K hK => ?_) AllReadyH.nil
                    obtain ⟨⟨x0, x1, x2, x3⟩, x4, x5, x6, x7⟩ := q6
                    go_simp
                    obtain ⟨y33, hz⟩ : ∃ z, z = ((((y32.setCell ⟨y0.heap.size, 0, none⟩ (.int .i64 u1s)).setCell ⟨y0.heap.size, 1, none⟩ (.int .i64 (C : Int))).setCell ⟨y0.heap.size, 2, none⟩ (.int .i64 (p2n : Int))).setCell ⟨y0.heap.size, 3, none⟩ (.int .i64 (g2n : Int))) := ⟨_, rfl⟩
                    rw [← hz]
                    have q6 : Q4 y33 y0.heap.size (.int .i64 u1s) (.int .i64 (C : Int)) (.int .i64 (p2n : Int)) (.int .i64 (g2n : Int)) := by rw [hz]; exact (((Q4.set0 ⟨⟨x0, x1, x2, x3⟩, x4, x5, x6, x7⟩ _).set1 _).set2 _).set3 _
                    replace q7 : Q4 y33 y31.heap.size (.int .i64 0) (.int .i64 0) (.int .i64 0) (.int .i64 0) := by rw [hz]; exact (((q7.far (by omega) _ _).far (by omega) _ _).far (by omega) _ _).far (by omega) _ _
                    have n_ : New w3 y33 := by rw [hz]; exact (((M0.setCell l6 _).setCell l6 _).setCell l6 _).setCell l6 _
                    refine hK.out _ _ ⟨by rw [hz]; exact World.cell_set (World.cell_set (World.cell_set (World.cell_set hHeld.1 (by simp; omega)) (by simp; omega)) (by simp; omega)) (by simp; omega), by rw [hz]; exact World.cell_set (World.cell_set (World.cell_set (World.cell_set hHeld.2.1 (by simp; omega)) (by simp; omega)) (by simp; omega)) (by simp; omega), by rw [hz]; exact World.cell_set (World.cell_set (World.cell_set (World.cell_set hHeld.2.2.1 (by simp; omega)) (by simp; omega)) (by simp; omega)) (by simp; omega), by rw [hz]; exact World.cell_set (World.cell_set (World.cell_set (World.cell_set hHeld.2.2.2.1 (by simp; omega)) (by simp; omega)) (by simp; omega)) (by simp; omega), by rw [hz]; exact World.cell_set (World.cell_set (World.cell_set (World.cell_set hHeld.2.2.2.2.1 (by simp; omega)) (by simp; omega)) (by simp; omega)) (by simp; omega), by rw [hz]; exact World.cell_set (World.cell_set (World.cell_set (World.cell_set hHeld.2.2.2.2.2 (by simp; omega)) (by simp; omega)) (by simp; omega)) (by simp; omega)⟩ (fun hHeld => ?_)
                    clear hK K hz x0 x1 x2 x3 x4 x5 x6 x7
                    (try simp only [Act.put, List.setIfInBounds_toArray, List.set_cons_zero, List.set_cons_succ])
                    replace M0 := n_; clear n_
                    refine wpAnyH_ready (rs := [9]) (by kernel_rfl) (by simp) ?_
                    refine AllReadyH.cons (o := ⟨none, _, _, _, _, _⟩) rfl (fun K hK => ?_) AllReadyH.nil
                    obtain ⟨⟨x0, x1, x2, x3⟩, x4, x5, x6, x7⟩ := q7
                    go_simp
                    obtain ⟨y34, hz⟩ : ∃ z, z = ((((y33.setCell ⟨y31.heap.size, 0, none⟩ (.int .i64 u2s)).setCell ⟨y31.heap.size, 1, none⟩ (.int .i64 (A : Int))).setCell ⟨y31.heap.size, 2, none⟩ (.int .i64 (g2n : Int))).setCell ⟨y31.heap.size, 3, none⟩ (.int .i64 (q2n : Int))) := ⟨_, rfl⟩
                    rw [← hz]
                    have q7 : Q4 y34 y31.heap.size (.int .i64 u2s) (.int .i64 (A : Int)) (.int .i64 (g2n : Int)) (.int .i64 (q2n : Int)) := by rw [hz]; exact (((Q4.set0 ⟨⟨x0, x1, x2, x3⟩, x4, x5, x6, x7⟩ _).set1 _).set2 _).set3 _
                    replace q6 : Q4 y34 y0.heap.size (.int .i64 u1s) (.int .i64 (C : Int)) (.int .i64 (p2n : Int)) (.int .i64 (g2n : Int)) := by rw [hz]; exact (((q6.far (by omega) _ _).far (by omega) _ _).far (by omega) _ _).far (by omega) _ _
                    have n_ : New w3 y34 := by rw [hz]; exact (((M0.setCell l7 _).setCell l7 _).setCell l7 _).setCell l7 _
                    refine hK.out _ _ ⟨by rw [hz]; exact World.cell_set (World.cell_set (World.cell_set (World.cell_set hHeld.1 (by simp; omega)) (by simp; omega)) (by simp; omega)) (by simp; omega), by rw [hz]; exact World.cell_set (World.cell_set (World.cell_set (World.cell_set hHeld.2.1 (by simp; omega)) (by simp; omega)) (by simp; omega)) (by simp; omega), by rw [hz]; exact World.cell_set (World.cell_set (World.cell_set (World.cell_set hHeld.2.2.1 (by simp; omega)) (by simp; omega)) (by simp; omega)) (by simp; omega), by rw [hz]; exact World.cell_set (World.cell_set (World.cell_set (World.cell_set hHeld.2.2.2.1 (by simp; omega)) (by simp; omega)) (by simp; omega)) (by simp; omega), by rw [hz]; exact World.cell_set (World.cell_set (World.cell_set (World.cell_set hHeld.2.2.2.2.1 (by simp; omega)) (by simp; omega)) (by simp; omega)) (by simp; omega), by rw [hz]; exact World.cell_set (World.cell_set (World.cell_set (World.cell_set hHeld.2.2.2.2.2 (by simp; omega)) (by simp; omega)) (by simp; omega)) (by simp; omega)⟩ (fun hHeld => ?_)
                    clear hK K hz x0 x1 x2 x3 x4 x5 x6 x7
                    (try simp only [Act.put, List.setIfInBounds_toArray, List.set_cons_zero, List.set_cons_succ])
                    replace M0 := n_; clear n_
                    refine wpAnyH_done (by kernel_rfl) ?_ _
                    go_wp2_with fail
                    go_meet
                    exact ⟨_, _, rfl, rfl, M0, l6, l7, q6, q7⟩
                  refine AllReadyH.cons (o := ⟨some 10, _, _, _, _, _⟩) rfl (fun K hK => ?_) AllReadyH.nil
                  go_simp
                  obtain ⟨y35, hz⟩ : ∃ z, z = y30.alloc (.cells #[.int .i64 0, .int .i64 0, .int .i64 0, .int .i64 0] 60) := ⟨_, rfl⟩
                  rw [← hz]
                  have n_ : New y30 y35 := by rw [hz]; exact (New.refl _).alloc _
                  have q7 : Q4 y35 y30.heap.size (.int .i64 0) (.int .i64 0) (.int .i64 0) (.int .i64 0) := by rw [hz]; exact Q4.fresh _ _ _ _ _ _
                  have l7 : w3.heap.size ≤ y30.heap.size := M0.size
                  clear hz
                  refine hK.out _ _ ⟨n_.cell hHeld.1, n_.cell hHeld.2.1, n_.cell hHeld.2.2.1, n_.cell hHeld.2.2.2.1, n_.cell hHeld.2.2.2.2.1, n_.cell hHeld.2.2.2.2.2⟩ (fun hHeld => ?_)
                  clear hK K
                  (try simp only [Act.put, List.setIfInBounds_toArray, List.set_cons_zero, List.set_cons_succ])
                  replace q6 := q6.new n_
                  have sy35 := n_.size
                  replace M0 := M0.trans n_; clear n_
                  have t6y35 := q6.lt
                  have t7y35 := q7.lt
                  refine wpAnyH_ready (rs := [5]) (by kernel_rfl) (by simp) ?_
                  refine AllReadyH.cons (o := ⟨some 38, _, _, _, _, _⟩) rfl (fun K hK => ?_) AllReadyH.nil
                  go_simp
                  refine (saGap_any _ g1 (g2n : Int) q1 (q2n : Int) c1 c2 d1 d2).mono ?_
                  rintro e y36 ⟨rfl, n_⟩
                  rw [HU2.out, EA2.out]
                  refine hK.out _ _ ⟨n_.cell hHeld.1, n_.cell hHeld.2.1, n_.cell hHeld.2.2.1, n_.cell hHeld.2.2.2.1, n_.cell hHeld.2.2.2.2.1, n_.cell hHeld.2.2.2.2.2⟩ (fun hHeld => ?_)
                  clear hK K
                  (try simp only [Act.put, List.setIfInBounds_toArray, List.set_cons_zero, List.set_cons_succ])
                  replace q6 := q6.new n_
                  replace q7 := q7.new n_
                  have sy36 := n_.size
                  replace M0 := M0.trans n_; clear n_
                  have t6y36 := q6.lt
                  have t7y36 := q7.lt
                  refine wpAnyH_ready (rs := [8]) (by kernel_rfl) (by simp) ?_
                  refine AllReadyH.cons (o := ⟨none, _, _, _, _, _⟩) rfl (fun K hK => ?_) AllReadyH.nil
                  obtain ⟨⟨x0, x1, x2, x3⟩, x4, x5, x6, x7⟩ := q6
                  go_simp
                  obtain ⟨y37, hz⟩ : ∃ z, z = ((((y36.setCell ⟨y0.heap.size, 0, none⟩ (.int .i64 u1s)).setCell ⟨y0.heap.size, 1, none⟩ (.int .i64 (C : Int))).setCell ⟨y0.heap.size, 2, none⟩ (.int .i64 (p2n : Int))).setCell ⟨y0.heap.size, 3, none⟩ (.int .i64 (g2n : Int))) := ⟨_, rfl⟩
                  rw [← hz]
                  have q6 : Q4 y37 y0.heap.size (.int .i64 u1s) (.int .i64 (C : Int)) (.int .i64 (p2n : Int)) (.int .i64 (g2n : Int)) := by rw [hz]; exact (((Q4.set0 ⟨⟨x0, x1, x2, x3⟩, x4, x5, x6, x7⟩ _).set1 _).set2 _).set3 _
                  replace q7 : Q4 y37 y30.heap.size (.int .i64 0) (.int .i64 0) (.int .i64 0) (.int .i64 0) := by rw [hz]; exact (((q7.far (by omega) _ _).far (by omega) _ _).far (by omega) _ _).far (by omega) _ _
                  have n_ : New w3 y37 := by rw [hz]; exact (((M0.setCell l6 _).setCell l6 _).setCell l6 _).setCell l6 _
                  refine hK.out _ _ ⟨by rw [hz]; exact World.cell_set (World.cell_set (World.cell_set (World.cell_set hHeld.1 (by simp; omega)) (by simp; omega)) (by simp; omega)) (by simp; omega), by rw [hz]; exact World.cell_set (World.cell_set (World.cell_set (World.cell_set hHeld.2.1 (by simp; omega)) (by simp; omega)) (by simp; omega)) (by simp; omega), by rw [hz]; exact World.cell_set (World.cell_set (World.cell_set (World.cell_set hHeld.2.2.1 (by simp; omega)) (by simp; omega)) (by simp; omega)) (by simp; omega), by rw [hz]; exact World.cell_set (World.cell_set (World.cell_set (World.cell_set hHeld.2.2.2.1 (by simp; omega)) (by simp; omega)) (by simp; omega)) (by simp; omega), by rw [hz]; exact World.cell_set (World.cell_set (World.cell_set (World.cell_set hHeld.2.2.2.2.1 (by simp; omega)) (by simp; omega)) (by simp; omega)) (by simp; omega), by rw [hz]; exact World.cell_set (World.cell_set (World.cell_set (World.cell_set hHeld.2.2.2.2.2 (by simp; omega)) (by simp; omega)) (by simp; omega)) (by simp; omega)⟩ (fun hHeld => ?_)
                  clear hK K hz x0 x1 x2 x3 x4 x5 x6 x7
                  (try simp only [Act.put, List.setIfInBounds_toArray, List.set_cons_zero, List.set_cons_succ])
                  replace M0 := n_; clear n_
                  refine wpAnyH_ready (rs := [9]) (by kernel_rfl) (by simp) ?_
                  refine AllReadyH.cons (o := ⟨none, _, _, _, _, _⟩) rfl (fun K hK => ?_) AllReadyH.nil
                  obtain ⟨⟨x0, x1, x2, x3⟩, x4, x5, x6, x7⟩ := q7
                  go_simp
                  obtain ⟨y38, hz⟩ : ∃ z, z = ((((y37.setCell ⟨y30.heap.size, 0, none⟩ (.int .i64 u2s)).setCell ⟨y30.heap.size, 1, none⟩ (.int .i64 (A : Int))).setCell ⟨y30.heap.size, 2, none⟩ (.int .i64 (g2n : Int))).setCell ⟨y30.heap.size, 3, none⟩ (.int .i64 (q2n : Int))) := ⟨_, rfl⟩
                  rw [← hz]
                  have q7 : Q4 y38 y30.heap.size (.int .i64 u2s) (.int .i64 (A : Int)) (.int .i64 (g2n : Int)) (.int .i64 (q2n : Int)) := by rw [hz]; exact (((Q4.set0 ⟨⟨x0, x1, x2, x3⟩, x4, x5, x6, x7⟩ _).set1 _).set2 _).set3 _
                  replace q6 : Q4 y38 y0.heap.size (.int .i64 u1s) (.int .i64 (C : Int)) (.int .i64 (p2n : Int)) (.int .i64 (g2n : Int)) := by rw [hz]; exact (((q6.far (by omega) _ _).far (by omega) _ _).far (by omega) _ _).far (by omega) _ _
                  have n_ : New w3 y38 := by rw [hz]; exact (((M0.setCell l7 _).setCell l7 _).setCell l7 _).setCell l7 _
                  refine hK.out _ _ ⟨by rw [hz]; exact World.cell_set (World.cell_set (World.cell_set (World.cell_set hHeld.1 (by simp; omega)) (by simp; omega)) (by simp; omega)) (by simp; omega), by rw [hz]; exact World.cell_set (World.cell_set (World.cell_set (World.cell_set hHeld.2.1 (by simp; omega)) (by simp; omega)) (by simp; omega)) (by simp; omega), by rw [hz]; exact World.cell_set (World.cell_set (World.cell_set (World.cell_set hHeld.2.2.1 (by simp; omega)) (by simp; omega)) (by simp; omega)) (by simp; omega), by rw [hz]; exact World.cell_set (World.cell_set (World.cell_set (World.cell_set hHeld.2.2.2.1 (by simp; omega)) (by simp; omega)) (by simp; omega)) (by simp; omega), by rw [hz]; exact World.cell_set (World.cell_set (World.cell_set (World.cell_set hHeld.2.2.2.2.1 (by simp; omega)) (by simp; omega)) (by simp; omega)) (by simp; omega), by rw [hz]; exact World.cell_set (World.cell_set (World.cell_set (World.cell_set hHeld.2.2.2.2.2 (by simp; omega)) (by simp; omega)) (by simp; omega)) (by simp; omega)⟩ (fun hHeld => ?_)
                  clear hK K hz x0 x1 x2 x3 x4 x5 x6 x7
                  (try simp only [Act.put, List.setIfInBounds_toArray, List.set_cons_zero, List.set_cons_succ])
                  replace M0 := n_; clear n_
                  refine wpAnyH_done (by kernel_rfl) ?_ _
                  go_wp2_with fail
                  go_meet
                  exact ⟨_, _, rfl, rfl, M0, l6, l7, q6, q7⟩
                refine AllReadyH.cons (o := ⟨some 10, _, _, _, _, _⟩) rfl (fun K hK => ?_) AllReadyH.nil
                go_simp
                obtain ⟨y39, hz⟩ : ∃ z, z = y29.alloc (.cells #[.int .i64 0, .int .i64 0, .int .i64 0, .int .i64 0] 60) := ⟨_, rfl⟩
                rw [← hz]
                have n_ : New y29 y39 := by rw [hz]; exact (New.refl _).alloc _
                have q7 : Q4 y39 y29.heap.size (.int .i64 0) (.int .i64 0) (.int .i64 0) (.int .i64 0) := by rw [hz]; exact Q4.fresh _ _ _ _ _ _
                have l7 : w3.heap.size ≤ y29.heap.size := M0.size
                clear hz
                refine hK.out _ _ ⟨n_.cell hHeld.1, n_.cell hHeld.2.1, n_.cell hHeld.2.2.1, n_.cell hHeld.2.2.2.1, n_.cell hHeld.2.2.2.2.1, n_.cell hHeld.2.2.2.2.2⟩ (fun hHeld => ?_)
                clear hK K
                (try simp only [Act.put, List.setIfInBounds_toArray, List.set_cons_zero, List.set_cons_succ])
                replace q6 := q6.new n_
                have sy39 := n_.size
                replace M0 := M0.trans n_; clear n_
                have t6y39 := q6.lt
                have t7y39 := q7.lt
                refine wpAnyH_ready (rs := [2]) (by kernel_rfl) (by simp) ?_
                refine AllReadyH.cons (o := ⟨some 35, _, _, _, _, _⟩) rfl (fun K hK => ?_) AllReadyH.nil
                go_simp
                refine (saGap_any _ p1 (p2n : Int) g1 (g2n : Int) a1 a2 b1 b2).mono ?_
                rintro e y40 ⟨rfl, n_⟩
                rw [HU1.out, EC.out]
                refine hK.out _ _ ⟨n_.cell hHeld.1, n_.cell hHeld.2.1, n_.cell hHeld.2.2.1, n_.cell hHeld.2.2.2.1, n_.cell hHeld.2.2.2.2.1, n_.cell hHeld.2.2.2.2.2⟩ (fun hHeld => ?_)
                clear hK K
                (try simp only [Act.put, List.setIfInBounds_toArray, List.set_cons_zero, List.set_cons_succ])
                replace q6 := q6.new n_
                replace q7 := q7.new n_
                have sy40 := n_.size
                replace M0 := M0.trans n_; clear n_
                have t6y40 := q6.lt
                have t7y40 := q7.lt
                refine wpAnyH_ready (rs := [5]) (by kernel_rfl) (by simp) ?_
                refine AllReadyH.cons (o := ⟨some 38, _, _, _, _, _⟩) rfl (fun K hK => ?_) AllReadyH.nil
                go_simp
                refine (saGap_any _ g1 (g2n : Int) q1 (q2n : Int) c1 c2 d1 d2).mono ?_
                rintro e y41 ⟨rfl, n_⟩
                rw [HU2.out, EA2.out]
                refine hK.out _ _ ⟨n_.cell hHeld.1, n_.cell hHeld.2.1, n_.cell hHeld.2.2.1, n_.cell hHeld.2.2.2.1, n_.cell hHeld.2.2.2.2.1, n_.cell hHeld.2.2.2.2.2⟩ (fun hHeld => ?_)
                clear hK K
                (try simp only [Act.put, List.setIfInBounds_toArray, List.set_cons_zero, List.set_cons_succ])
                replace q6 := q6.new n_
                replace q7 := q7.new n_
                have sy41 := n_.size
                replace M0 := M0.trans n_; clear n_
                have t6y41 := q6.lt
                have t7y41 := q7.lt
                refine wpAnyH_ready (rs := [8]) (by kernel_rfl) (by simp) ?_
                refine AllReadyH.cons (o := ⟨none, _, _, _, _, _⟩) rfl (fun K hK => ?_) AllReadyH.nil
                obtain ⟨⟨x0, x1, x2, x3⟩, x4, x5, x6, x7⟩ := q6
                go_simp
                obtain ⟨y42, hz⟩ : ∃ z, z = ((((y41.setCell ⟨y0.heap.size, 0, none⟩ (.int .i64 u1s)).setCell ⟨y0.heap.size, 1, none⟩ (.int .i64 (C : Int))).setCell ⟨y0.heap.size, 2, none⟩ (.int .i64 (p2n : Int))).setCell ⟨y0.heap.size, 3, none⟩ (.int .i64 (g2n : Int))) := ⟨_, rfl⟩
                rw [← hz]
                have q6 : Q4 y42 y0.heap.size (.int .i64 u1s) (.int .i64 (C : Int)) (.int .i64 (p2n : Int)) (.int .i64 (g2n : Int)) := by rw [hz]; exact (((Q4.set0 ⟨⟨x0, x1, x2, x3⟩, x4, x5, x6, x7⟩ _).set1 _).set2 _).set3 _
                replace q7 : Q4 y42 y29.heap.size (.int .i64 0) (.int .i64 0) (.int .i64 0) (.int .i64 0) := by rw [hz]; exact (((q7.far (by omega) _ _).far (by omega) _ _).far (by omega) _ _).far (by omega) _ _
                have n_ : New w3 y42 := by rw [hz]; exact (((M0.setCell l6 _).setCell l6 _).setCell l6 _).setCell l6 _
                refine hK.out _ _ ⟨by rw [hz]; exact World.cell_set (World.cell_set (World.cell_set (World.cell_set hHeld.1 (by simp; omega)) (by simp; omega)) (by simp; omega)) (by simp; omega), by rw [hz]; exact World.cell_set (World.cell_set (World.cell_set (World.cell_set hHeld.2.1 (by simp; omega)) (by simp; omega)) (by simp; omega)) (by simp; omega), by rw [hz]; exact World.cell_set (World.cell_set (World.cell_set (World.cell_set hHeld.2.2.1 (by simp; omega)) (by simp; omega)) (by simp; omega)) (by simp; omega), by rw [hz]; exact World.cell_set (World.cell_set (World.cell_set (World.cell_set hHeld.2.2.2.1 (by simp; omega)) (by simp; omega)) (by simp; omega)) (by simp; omega), by rw [hz]; exact World.cell_set (World.cell_set (World.cell_set (World.cell_set hHeld.2.2.2.2.1 (by simp; omega)) (by simp; omega)) (by simp; omega)) (by simp; omega), by rw [hz]; exact World.cell_set (World.cell_set (World.cell_set (World.cell_set hHeld.2.2.2.2.2 (by simp; omega)) (by simp; omega)) (by simp; omega)) (by simp; omega)⟩ (fun hHeld => ?_)
                clear hK K hz x0 x1 x2 x3 x4 x5 x6 x7
                (try simp only [Act.put, List.setIfInBounds_toArray, List.set_cons_zero, List.set_cons_succ])
                replace M0 := n_; clear n_
                refine wpAnyH_ready (rs := [9]) (by kernel_rfl) (by simp) ?_
                refine AllReadyH.cons (o := ⟨none, _, _, _, _, _⟩) rfl (fun K hK => ?_) AllReadyH.nil
                obtain ⟨⟨x0, x1, x2, x3⟩, x4, x5, x6, x7⟩ := q7
                go_simp
                obtain ⟨y43, hz⟩ : ∃ z, z = ((((y42.setCell ⟨y29.heap.size, 0, none⟩ (.int .i64 u2s)).setCell ⟨y29.heap.size, 1, none⟩ (.int .i64 (A : Int))).setCell ⟨y29.heap.size, 2, none⟩ (.int .i64 (g2n : Int))).setCell ⟨y29.heap.size, 3, none⟩ (.int .i64 (q2n : Int))) := ⟨_, rfl⟩
                rw [← hz]
                have q7 : Q4 y43 y29.heap.size (.int .i64 u2s) (.int .i64 (A : Int)) (.int .i64 (g2n : Int)) (.int .i64 (q2n : Int)) := by rw [hz]; exact (((Q4.set0 ⟨⟨x0, x1, x2, x3⟩, x4, x5, x6, x7⟩ _).set1 _).set2 _).set3 _
                replace q6 : Q4 y43 y0.heap.size (.int .i64 u1s) (.int .i64 (C : Int)) (.int .i64 (p2n : Int)) (.int .i64 (g2n : Int)) := by rw [hz]; exact (((q6.far (by omega) _ _).far (by omega) _ _).far (by omega) _ _).far (by omega) _ _
                have n_ : New w3 y43 := by rw [hz]; exact (((M0.setCell l7 _).setCell l7 _).setCell l7 _).setCell l7 _
                refine hK.out _ _ ⟨by rw [hz]; exact World.cell_set (World.cell_set (World.cell_set (World.cell_set hHeld.1 (by simp; omega)) (by simp; omega)) (by simp; omega)) (by simp; omega), by rw [hz]; exact World.cell_set (World.cell_set (World.cell_set (World.cell_set hHeld.2.1 (by simp; omega)) (by simp; omega)) (by simp; omega)) (by simp; omega), by rw [hz]; exact World.cell_set (World.cell_set (World.cell_set (World.cell_set hHeld.2.2.1 (by simp; omega)) (by simp; omega)) (by simp; omega)) (by simp; omega), by rw [hz]; exact World.cell_set (World.cell_set (World.cell_set (World.cell_set hHeld.2.2.2.1 (by simp; omega)) (by simp; omega)) (by simp; omega)) (by simp; omega), by rw [hz]; exact World.cell_set (World.cell_set (World.cell_set (World.cell_set hHeld.2.2.2.2.1 (by simp; omega)) (by simp; omega)) (by simp; omega)) (by simp; omega), by rw [hz]; exact World.cell_set (World.cell_set (World.cell_set (World.cell_set hHeld.2.2.2.2.2 (by simp; omega)) (by simp; omega)) (by simp; omega)) (by simp; omega)⟩ (fun hHeld => ?_)
                clear hK K hz x0 x1 x2 x3 x4 x5 x6 x7
                (try simp only [Act.put, List.setIfInBounds_toArray, List.set_cons_zero, List.set_cons_succ])
                replace M0 := n_; clear n_
                refine wpAnyH_done (by kernel_rfl) ?_ _
                go_wp2_with fail
                go_meet
                exact ⟨_, _, rfl, rfl, M0, l6, l7, q6, q7⟩
              refine AllReadyH.cons (o := ⟨some 10, _, _, _, _, _⟩) rfl (fun K hK => ?_) AllReadyH.nil
              go_simp
              obtain ⟨y44, hz⟩ : ∃ z, z = y0.alloc (.cells #[.int .i64 0, .int .i64 0, .int .i64 0, .int .i64 0] 60) := ⟨_, rfl⟩
              rw [← hz]
              have n_ : New y0 y44 := by rw [hz]; exact (New.refl _).alloc _
              have q7 : Q4 y44 y0.heap.size (.int .i64 0) (.int .i64 0) (.int .i64 0) (.int .i64 0) := by rw [hz]; exact Q4.fresh _ _ _ _ _ _
              have l7 : w3.heap.size ≤ y0.heap.size := M0.size
              clear hz
              refine hK.out _ _ ⟨n_.cell hHeld.1, n_.cell hHeld.2.1, n_.cell hHeld.2.2.1, n_.cell hHeld.2.2.2.1, n_.cell hHeld.2.2.2.2.1, n_.cell hHeld.2.2.2.2.2⟩ (fun hHeld => ?_)
              clear hK K
              (try simp only [Act.put, List.setIfInBounds_toArray, List.set_cons_zero, List.set_cons_succ])
              have sy44 := n_.size
              replace M0 := M0.trans n_; clear n_
              have t7y44 := q7.lt
              refine wpAnyH_ready (rs := [2, 6]) (by kernel_rfl) (by simp) ?_
              refine AllReadyH.cons (o := ⟨some 35, _, _, _, _, _⟩) rfl (fun K hK => ?_) ?_
              · skip
                go_simp
                refine (saGap_any _ p1 (p2n : Int) g1 (g2n : Int) a1 a2 b1 b2).mono ?_
                rintro e y45 ⟨rfl, n_⟩
                rw [HU1.out, EC.out]
                refine hK.out _ _ ⟨n_.cell hHeld.1, n_.cell hHeld.2.1, n_.cell hHeld.2.2.1, n_.cell hHeld.2.2.2.1, n_.cell hHeld.2.2.2.2.1, n_.cell hHeld.2.2.2.2.2⟩ (fun hHeld => ?_)
                clear hK K
                (try simp only [Act.put, List.setIfInBounds_toArray, List.set_cons_zero, List.set_cons_succ])
                replace q7 := q7.new n_
                have sy45 := n_.size
                replace M0 := M0.trans n_; clear n_
                have t7y45 := q7.lt
                refine wpAnyH_ready (rs := [5, 6]) (by kernel_rfl) (by simp) ?_
                refine AllReadyH.cons (o := ⟨some 38, _, _, _, _, _⟩) rfl (fun K hK => ?_) ?_
                · skip
                  go_simp
                  refine (saGap_any _ g1 (g2n : Int) q1 (q2n : Int) c1 c2 d1 d2).mono ?_
                  rintro e y46 ⟨rfl, n_⟩
                  rw [HU2.out, EA2.out]
                  refine hK.out _ _ ⟨n_.cell hHeld.1, n_.cell hHeld.2.1, n_.cell hHeld.2.2.1, n_.cell hHeld.2.2.2.1, n_.cell hHeld.2.2.2.2.1, n_.cell hHeld.2.2.2.2.2⟩ (fun hHeld => ?_)
                  clear hK K
                  (try simp only [Act.put, List.setIfInBounds_toArray, List.set_cons_zero, List.set_cons_succ])
                  replace q7 := q7.new n_
                  have sy46 := n_.size
                  replace M0 := M0.trans n_; clear n_
                  have t7y46 := q7.lt
                  refine wpAnyH_ready (rs := [6]) (by kernel_rfl) (by simp) ?_
                  refine AllReadyH.cons (o := ⟨some 9, _, _, _, _, _⟩) rfl (fun K hK => ?_) AllReadyH.nil
                  go_simp
                  obtain ⟨y47, hz⟩ : ∃ z, z = y46.alloc (.cells #[.int .i64 0, .int .i64 0, .int .i64 0, .int .i64 0] 60) := ⟨_, rfl⟩
                  rw [← hz]
                  have n_ : New y46 y47 := by rw [hz]; exact (New.refl _).alloc _
                  have q6 : Q4 y47 y46.heap.size (.int .i64 0) (.int .i64 0) (.int .i64 0) (.int .i64 0) := by rw [hz]; exact Q4.fresh _ _ _ _ _ _
                  have l6 : w3.heap.size ≤ y46.heap.size := M0.size
                  clear hz
                  refine hK.out _ _ ⟨n_.cell hHeld.1, n_.cell hHeld.2.1, n_.cell hHeld.2.2.1, n_.cell hHeld.2.2.2.1, n_.cell hHeld.2.2.2.2.1, n_.cell hHeld.2.2.2.2.2⟩ (fun hHeld => ?_)
                  clear hK K
                  (try simp only [Act.put, List.setIfInBounds_toArray, List.set_cons_zero, List.set_cons_succ])
                  replace q7 := q7.new n_
                  have sy47 := n_.size
                  replace M0 := M0.trans n_; clear n_
                  have t7y47 := q7.lt
                  have t6y47 := q6.lt
                  refine wpAnyH_ready (rs := [8]) (by kernel_rfl) (by simp) ?_
                  refine AllReadyH.cons (o := ⟨none, _, _, _, _, _⟩) rfl (fun K hK => ?_) AllReadyH.nil
                  obtain ⟨⟨x0, x1, x2, x3⟩, x4, x5, x6, x7⟩ := q6
                  go_simp
                  obtain ⟨y48, hz⟩ : ∃ z, z = ((((y47.setCell ⟨y46.heap.size, 0, none⟩ (.int .i64 u1s)).setCell ⟨y46.heap.size, 1, none⟩ (.int .i64 (C : Int))).setCell ⟨y46.heap.size, 2, none⟩ (.int .i64 (p2n : Int))).setCell ⟨y46.heap.size, 3, none⟩ (.int .i64 (g2n : Int))) := ⟨_, rfl⟩
                  rw [← hz]
                  have q6 : Q4 y48 y46.heap.size (.int .i64 u1s) (.int .i64 (C : Int)) (.int .i64 (p2n : Int)) (.int .i64 (g2n : Int)) := by rw [hz]; exact (((Q4.set0 ⟨⟨x0, x1, x2, x3⟩, x4, x5, x6, x7⟩ _).set1 _).set2 _).set3 _
                  replace q7 : Q4 y48 y0.heap.size (.int .i64 0) (.int .i64 0) (.int .i64 0) (.int .i64 0) := by rw [hz]; exact (((q7.far (by omega) _ _).far (by omega) _ _).far (by omega) _ _).far (by omega) _ _
                  have n_ : New w3 y48 := by rw [hz]; exact (((M0.setCell l6 _).setCell l6 _).setCell l6 _).setCell l6 _
                  refine hK.out _ _ ⟨by rw [hz]; exact World.cell_set (World.cell_set (World.cell_set (World.cell_set hHeld.1 (by simp; omega)) (by simp; omega)) (by simp; omega)) (by simp; omega), by rw [hz]; exact World.cell_set (World.cell_set (World.cell_set (World.cell_set hHeld.2.1 (by simp; omega)) (by simp; omega)) (by simp; omega)) (by simp; omega), by rw [hz]; exact World.cell_set (World.cell_set (World.cell_set (World.cell_set hHeld.2.2.1 (by simp; omega)) (by simp; omega)) (by simp; omega)) (by simp; omega), by rw [hz]; exact World.cell_set (World.cell_set (World.cell_set (World.cell_set hHeld.2.2.2.1 (by simp; omega)) (by simp; omega)) (by simp; omega)) (by simp; omega), by rw [hz]; exact World.cell_set (World.cell_set (World.cell_set (World.cell_set hHeld.2.2.2.2.1 (by simp; omega)) (by simp; omega)) (by simp; omega)) (by simp; omega), by rw [hz]; exact World.cell_set (World.cell_set (World.cell_set (World.cell_set hHeld.2.2.2.2.2 (by simp; omega)) (by simp; omega)) (by simp; omega)) (by simp; omega)⟩ (fun hHeld => ?_)
                  clear hK K hz x0 x1 x2 x3 x4 x5 x6 x7
                  (try simp only [Act.put, List.setIfInBounds_toArray, List.set_cons_zero, List.set_cons_succ])
                  replace M0 := n_; clear n_
                  refine wpAnyH_ready (rs := [9]) (by kernel_rfl) (by simp) ?_
                  refine AllReadyH.cons (o := ⟨none, _, _, _, _, _⟩) rfl (fun K hK => ?_) AllReadyH.nil
                  obtain ⟨⟨x0, x1, x2, x3⟩, x4, x5, x6, x7⟩ := q7
                  go_simp
                  obtain ⟨y49, hz⟩ : ∃ z, z = ((((y48.setCell ⟨y0.heap.size, 0, none⟩ (.int .i64 u2s)).setCell ⟨y0.heap.size, 1, none⟩ (.int .i64 (A : Int))).setCell ⟨y0.heap.size, 2, none⟩ (.int .i64 (g2n : Int))).setCell ⟨y0.heap.size, 3, none⟩ (.int .i64 (q2n : Int))) := ⟨_, rfl⟩
                  rw [← hz]
                  have q7 : Q4 y49 y0.heap.size (.int .i64 u2s) (.int .i64 (A : Int)) (.int .i64 (g2n : Int)) (.int .i64 (q2n : Int)) := by rw [hz]; exact (((Q4.set0 ⟨⟨x0, x1, x2, x3⟩, x4, x5, x6, x7⟩ _).set1 _).set2 _).set3 _
                  replace q6 : Q4 y49 y46.heap.size (.int .i64 u1s) (.int .i64 (C : Int)) (.int .i64 (p2n : Int)) (.int .i64 (g2n : Int)) := by rw [hz]; exact (((q6.far (by omega) _ _).far (by omega) _ _).far (by omega) _ _).far (by omega) _ _
                  have n_ : New w3 y49 := by rw [hz]; exact (((M0.setCell l7 _).setCell l7 _).setCell l7 _).setCell l7 _
                  refine hK.out _ _ ⟨by rw [hz]; exact World.cell_set (World.cell_set (World.cell_set (World.cell_set hHeld.1 (by simp; omega)) (by simp; omega)) (by simp; omega)) (by simp; omega), by rw [hz]; exact World.cell_set (World.cell_set (World.cell_set (World.cell_set hHeld.2.1 (by simp; omega)) (by simp; omega)) (by simp; omega)) (by simp; omega), by rw [hz]; exact World.cell_set (World.cell_set (World.cell_set (World.cell_set hHeld.2.2.1 (by simp; omega)) (by simp; omega)) (by simp; omega)) (by simp; omega), by rw [hz]; exact World.cell_set (World.cell_set (World.cell_set (World.cell_set hHeld.2.2.2.1 (by simp; omega)) (by simp; omega)) (by simp; omega)) (by simp; omega), by rw [hz]; exact World.cell_set (World.cell_set (World.cell_set (World.cell_set hHeld.2.2.2.2.1 (by simp; omega)) (by simp; omega)) (by simp; omega)) (by simp; omega), by rw [hz]; exact World.cell_set (World.cell_set (World.cell_set (World.cell_set hHeld.2.2.2.2.2 (by simp; omega)) (by simp; omega)) (by simp; omega)) (by simp; omega)⟩ (fun hHeld => ?_)
                  clear hK K hz x0 x1 x2 x3 x4 x5 x6 x7
                  (try simp only [Act.put, List.setIfInBounds_toArray, List.set_cons_zero, List.set_cons_succ])
                  replace M0 := n_; clear n_
                  refine wpAnyH_done (by kernel_rfl) ?_ _
                  go_wp2_with fail
                  go_meet
                  exact ⟨_, _, rfl, rfl, M0, l6, l7, q6, q7⟩
                refine AllReadyH.cons (o := ⟨some 9, _, _, _, _, _⟩) rfl (fun K hK => ?_) AllReadyH.nil
                go_simp
                obtain ⟨y50, hz⟩ : ∃ z, z = y45.alloc (.cells #[.int .i64 0, .int .i64 0, .int .i64 0, .int .i64 0] 60) := ⟨_, rfl⟩
                rw [← hz]
                have n_ : New y45 y50 := by rw [hz]; exact (New.refl _).alloc _
                have q6 : Q4 y50 y45.heap.size (.int .i64 0) (.int .i64 0) (.int .i64 0) (.int .i64 0) := by rw [hz]; exact Q4.fresh _ _ _ _ _ _
                have l6 : w3.heap.size ≤ y45.heap.size := M0.size
                clear hz
                refine hK.out _ _ ⟨n_.cell hHeld.1, n_.cell hHeld.2.1, n_.cell hHeld.2.2.1, n_.cell hHeld.2.2.2.1, n_.cell hHeld.2.2.2.2.1, n_.cell hHeld.2.2.2.2.2⟩ (fun hHeld => ?_)
                clear hK K
                (try simp only [Act.put, List.setIfInBounds_toArray, List.set_cons_zero, List.set_cons_succ])
                replace q7 := q7.new n_
                have sy50 := n_.size
                replace M0 := M0.trans n_; clear n_
                have t7y50 := q7.lt
                have t6y50 := q6.lt
                refine wpAnyH_ready (rs := [5]) (by kernel_rfl) (by simp) ?_
                refine AllReadyH.cons (o := ⟨some 38, _, _, _, _, _⟩) rfl (fun K hK => ?_) AllReadyH.nil
                go_simp
                refine (saGap_any _ g1 (g2n : Int) q1 (q2n : Int) c1 c2 d1 d2).mono ?_
                rintro e y51 ⟨rfl, n_⟩
                rw [HU2.out, EA2.out]
                refine hK.out _ _ ⟨n_.cell hHeld.1, n_.cell hHeld.2.1, n_.cell hHeld.2.2.1, n_.cell hHeld.2.2.2.1, n_.cell hHeld.2.2.2.2.1, n_.cell hHeld.2.2.2.2.2⟩ (fun hHeld => ?_)
                clear hK K
                (try simp only [Act.put, List.setIfInBounds_toArray, List.set_cons_zero, List.set_cons_succ])
                replace q6 := q6.new n_
                replace q7 := q7.new n_
                have sy51 := n_.size
                replace M0 := M0.trans n_; clear n_
                have t7y51 := q7.lt
                have t6y51 := q6.lt
                refine wpAnyH_ready (rs := [8]) (by kernel_rfl) (by simp) ?_
                refine AllReadyH.cons (o := ⟨none, _, _, _, _, _⟩) rfl (fun K hK => ?_) AllReadyH.nil
                obtain ⟨⟨x0, x1, x2, x3⟩, x4, x5, x6, x7⟩ := q6
                go_simp
                obtain ⟨y52, hz⟩ : ∃ z, z = ((((y51.setCell ⟨y45.heap.size, 0, none⟩ (.int .i64 u1s)).setCell ⟨y45.heap.size, 1, none⟩ (.int .i64 (C : Int))).setCell ⟨y45.heap.size, 2, none⟩ (.int .i64 (p2n : Int))).setCell ⟨y45.heap.size, 3, none⟩ (.int .i64 (g2n : Int))) := ⟨_, rfl⟩
                rw [← hz]
                have q6 : Q4 y52 y45.heap.size (.int .i64 u1s) (.int .i64 (C : Int)) (.int .i64 (p2n : Int)) (.int .i64 (g2n : Int)) := by rw [hz]; exact (((Q4.set0 ⟨⟨x0, x1, x2, x3⟩, x4, x5, x6, x7⟩ _).set1 _).set2 _).set3 _
                replace q7 : Q4 y52 y0.heap.size (.int .i64 0) (.int .i64 0) (.int .i64 0) (.int .i64 0) := by rw [hz]; exact (((q7.far (by omega) _ _).far (by omega) _ _).far (by omega) _ _).far (by omega) _ _
                have n_ : New w3 y52 := by rw [hz]; exact (((M0.setCell l6 _).setCell l6 _).setCell l6 _).setCell l6 _
                refine hK.out _ _ ⟨by rw [hz]; exact World.cell_set (World.cell_set (World.cell_set (World.cell_set hHeld.1 (by simp; omega)) (by simp; omega)) (by simp; omega)) (by simp; omega), by rw [hz]; exact World.cell_set (World.cell_set (World.cell_set (World.cell_set hHeld.2.1 (by simp; omega)) (by simp; omega)) (by simp; omega)) (by simp; omega), by rw [hz]; exact World.cell_set (World.cell_set (World.cell_set (World.cell_set hHeld.2.2.1 (by simp; omega)) (by simp; omega)) (by simp; omega)) (by simp; omega), by rw [hz]; exact World.cell_set (World.cell_set (World.cell_set (World.cell_set hHeld.2.2.2.1 (by simp; omega)) (by simp; omega)) (by simp; omega)) (by simp; omega), by rw [hz]; exact World.cell_set (World.cell_set (World.cell_set (World.cell_set hHeld.2.2.2.2.1 (by simp; omega)) (by simp; omega)) (by simp; omega)) (by simp; omega), by rw [hz]; exact World.cell_set (World.cell_set (World.cell_set (World.cell_set hHeld.2.2.2.2.2 (by simp; omega)) (by simp; omega)) (by simp; omega)) (by simp; omega)⟩ (fun hHeld => ?_)
                clear hK K hz x0 x1 x2 x3 x4 x5 x6 x7
                (try simp only [Act.put, List.setIfInBounds_toArray, List.set_cons_zero, List.set_cons_succ])
                replace M0 := n_; clear n_
                refine wpAnyH_ready (rs := [9]) (by kernel_rfl) (by simp) ?_
                refine AllReadyH.cons (o := ⟨none, _, _, _, _, _⟩) rfl (fun K hK => ?_) AllReadyH.nil
                obtain ⟨⟨x0, x1, x2, x3⟩, x4, x5, x6, x7⟩ := q7
                go_simp
                obtain ⟨y53, hz⟩ : ∃ z, z = ((((y52.setCell ⟨y0.heap.size, 0, none⟩ (.int .i64 u2s)).setCell ⟨y0.heap.size, 1, none⟩ (.int .i64 (A : Int))).setCell ⟨y0.heap.size, 2, none⟩ (.int .i64 (g2n : Int))).setCell ⟨y0.heap.size, 3, none⟩ (.int .i64 (q2n : Int))) := ⟨_, rfl⟩
                rw [← hz]
                have q7 : Q4 y53 y0.heap.size (.int .i64 u2s) (.int .i64 (A : Int)) (.int .i64 (g2n : Int)) (.int .i64 (q2n : Int)) := by rw [hz]; exact (((Q4.set0 ⟨⟨x0, x1, x2, x3⟩, x4, x5, x6, x7⟩ _).set1 _).set2 _).set3 _
                replace q6 : Q4 y53 y45.heap.size (.int .i64 u1s) (.int .i64 (C : Int)) (.int .i64 (p2n : Int)) (.int .i64 (g2n : Int)) := by rw [hz]; exact (((q6.far (by omega) _ _).far (by omega) _ _).far (by omega) _ _).far (by omega) _ _
                have n_ : New w3 y53 := by rw [hz]; exact (((M0.setCell l7 _).setCell l7 _).setCell l7 _).setCell l7 _
                refine hK.out _ _ ⟨by rw [hz]; exact World.cell_set (World.cell_set (World.cell_set (World.cell_set hHeld.1 (by simp; omega)) (by simp; omega)) (by simp; omega)) (by simp; omega), by rw [hz]; exact World.cell_set (World.cell_set (World.cell_set (World.cell_set hHeld.2.1 (by simp; omega)) (by simp; omega)) (by simp; omega)) (by simp; omega), by rw [hz]; exact World.cell_set (World.cell_set (World.cell_set (World.cell_set hHeld.2.2.1 (by simp; omega)) (by simp; omega)) (by simp; omega)) (by simp; omega), by rw [hz]; exact World.cell_set (World.cell_set (World.cell_set (World.cell_set hHeld.2.2.2.1 (by simp; omega)) (by simp; omega)) (by simp; omega)) (by simp; omega), by rw [hz]; exact World.cell_set (World.cell_set (World.cell_set (World.cell_set hHeld.2.2.2.2.1 (by simp; omega)) (by simp; omega)) (by simp; omega)) (by simp; omega), by rw [hz]; exact World.cell_set (World.cell_set (World.cell_set (World.cell_set hHeld.2.2.2.2.2 (by simp; omega)) (by simp; omega)) (by simp; omega)) (by simp; omega)⟩ (fun hHeld => ?_)
                clear hK K hz x0 x1 x2 x3 x4 x5 x6 x7
                (try simp only [Act.put, List.setIfInBounds_toArray, List.set_cons_zero, List.set_cons_succ])
                replace M0 := n_; clear n_
                refine wpAnyH_done (by kernel_rfl) ?_ _
                go_wp2_with fail
                go_meet
                exact ⟨_, _, rfl, rfl, M0, l6, l7, q6, q7⟩
              refine AllReadyH.cons (o := ⟨some 9, _, _, _, _, _⟩) rfl (fun K hK => ?_) AllReadyH.nil
              go_simp
              obtain ⟨y54, hz⟩ : ∃ z, z = y44.alloc (.cells #[.int .i64 0, .int .i64 0, .int .i64 0, .int .i64 0] 60) := ⟨_, rfl⟩
              rw [← hz]
              have n_ : New y44 y54 := by rw [hz]; exact (New.refl _).alloc _
              have q6 : Q4 y54 y44.heap.size (.int .i64 0) (.int .i64 0) (.int .i64 0) (.int .i64 0) := by rw [hz]; exact Q4.fresh _ _ _ _ _ _
              have l6 : w3.heap.size ≤ y44.heap.size := M0.size
              clear hz
              refine hK.out _ _ ⟨n_.cell hHeld.1, n_.cell hHeld.2.1, n_.cell hHeld.2.2.1, n_.cell hHeld.2.2.2.1, n_.cell hHeld.2.2.2.2.1, n_.cell hHeld.2.2.2.2.2⟩ (fun hHeld => ?_)
              clear hK K
              (try simp only [Act.put, List.setIfInBounds_toArray, List.set_cons_zero, List.set_cons_succ])
              replace q7 := q7.new n_
              have sy54 := n_.size
              replace M0 := M0.trans n_; clear n_
              have t7y54 := q7.lt
              have t6y54 := q6.lt
              refine wpAnyH_ready (rs := [2]) (by kernel_rfl) (by simp) ?_
              refine AllReadyH.cons (o := ⟨some 35, _, _, _, _, _⟩) rfl (fun K hK => ?_) AllReadyH.nil
              go_simp
              refine (saGap_any _ p1 (p2n : Int) g1 (g2n : Int) a1 a2 b1 b2).mono ?_
              rintro e y55 ⟨rfl, n_⟩
              rw [HU1.out, EC.out]
              refine hK.out _ _ ⟨n_.cell hHeld.1, n_.cell hHeld.2.1, n_.cell hHeld.2.2.1, n_.cell hHeld.2.2.2.1, n_.cell hHeld.2.2.2.2.1, n_.cell hHeld.2.2.2.2.2⟩ (fun hHeld => ?_)
              clear hK K
              (try simp only [Act.put, List.setIfInBounds_toArray, List.set_cons_zero, List.set_cons_succ])
              replace q6 := q6.new n_
              replace q7 := q7.new n_
              have sy55 := n_.size
              replace M0 := M0.trans n_; clear n_
              have t7y55 := q7.lt
              have t6y55 := q6.lt
              refine wpAnyH_ready (rs := [5]) (by kernel_rfl) (by simp) ?_
              refine AllReadyH.cons (o := ⟨some 38, _, _, _, _, _⟩) rfl (fun K hK => ?_) AllReadyH.nil
              go_simp
              refine (saGap_any _ g1 (g2n : Int) q1 (q2n : Int) c1 c2 d1 d2).mono ?_
              rintro e y56 ⟨rfl, n_⟩
              rw [HU2.out, EA2.out]
              refine hK.out _ _ ⟨n_.cell hHeld.1, n_.cell hHeld.2.1, n_.cell hHeld.2.2.1, n_.cell hHeld.2.2.2.1, n_.cell hHeld.2.2.2.2.1, n_.cell hHeld.2.2.2.2.2⟩ (fun hHeld => ?_)
              clear hK K
              (try simp only [Act.put, List.setIfInBounds_toArray, List.set_cons_zero, List.set_cons_succ])
              replace q6 := q6.new n_
              replace q7 := q7.new n_
              have sy56 := n_.size
              replace M0 := M0.trans n_; clear n_
              have t7y56 := q7.lt
              have t6y56 := q6.lt
              refine wpAnyH_ready (rs := [8]) (by kernel_rfl) (by simp) ?_
              refine AllReadyH.cons (o := ⟨none, _, _, _, _, _⟩) rfl (fun K hK => ?_) AllReadyH.nil
              obtain ⟨⟨x0, x1, x2, x3⟩, x4, x5, x6, x7⟩ := q6
              go_simp
              obtain ⟨y57, hz⟩ : ∃ z, z = ((((y56.setCell ⟨y44.heap.size, 0, none⟩ (.int .i64 u1s)).setCell ⟨y44.heap.size, 1, none⟩ (.int .i64 (C : Int))).setCell ⟨y44.heap.size, 2, none⟩ (.int .i64 (p2n : Int))).setCell ⟨y44.heap.size, 3, none⟩ (.int .i64 (g2n : Int))) := ⟨_, rfl⟩
              rw [← hz]
              have q6 : Q4 y57 y44.heap.size (.int .i64 u1s) (.int .i64 (C : Int)) (.int .i64 (p2n : Int)) (.int .i64 (g2n : Int)) := by rw [hz]; exact (((Q4.set0 ⟨⟨x0, x1, x2, x3⟩, x4, x5, x6, x7⟩ _).set1 _).set2 _).set3 _
              replace q7 : Q4 y57 y0.heap.size (.int .i64 0) (.int .i64 0) (.int .i64 0) (.int .i64 0) := by rw [hz]; exact (((q7.far (by omega) _ _).far (by omega) _ _).far (by omega) _ _).far (by omega) _ _
              have n_ : New w3 y57 := by rw [hz]; exact (((M0.setCell l6 _).setCell l6 _).setCell l6 _).setCell l6 _
              refine hK.out _ _ ⟨by rw [hz]; exact World.cell_set (World.cell_set (World.cell_set (World.cell_set hHeld.1 (by simp; omega)) (by simp; omega)) (by simp; omega)) (by simp; omega), by rw [hz]; exact World.cell_set (World.cell_set (World.cell_set (World.cell_set hHeld.2.1 (by simp; omega)) (by simp; omega)) (by simp; omega)) (by simp; omega), by rw [hz]; exact World.cell_set (World.cell_set (World.cell_set (World.cell_set hHeld.2.2.1 (by simp; omega)) (by simp; omega)) (by simp; omega)) (by simp; omega), by rw [hz]; exact World.cell_set (World.cell_set (World.cell_set (World.cell_set hHeld.2.2.2.1 (by simp; omega)) (by simp; omega)) (by simp; omega)) (by simp; omega), by rw [hz]; exact World.cell_set (World.cell_set (World.cell_set (World.cell_set hHeld.2.2.2.2.1 (by simp; omega)) (by simp; omega)) (by simp; omega)) (by simp; omega), by rw [hz]; exact World.cell_set (World.cell_set (World.cell_set (World.cell_set hHeld.2.2.2.2.2 (by simp; omega)) (by simp; omega)) (by simp; omega)) (by simp; omega)⟩ (fun hHeld => ?_)
              clear hK K hz x0 x1 x2 x3 x4 x5 x6 x7
              (try simp only [Act.put, List.setIfInBounds_toArray, List.set_cons_zero, List.set_cons_succ])
              replace M0 := n_; clear n_
              refine wpAnyH_ready (rs := [9]) (by kernel_rfl) (by simp) ?_
              refine AllReadyH.cons (o := ⟨none, _, _, _, _, _⟩) rfl (fun K hK => ?_) AllReadyH.nil
              obtain ⟨⟨x0, x1, x2, x3⟩, x4, x5, x6, x7⟩ := q7
              go_simp
              obtain ⟨y58, hz⟩ : ∃ z, z = ((((y57.setCell ⟨y0.heap.size, 0, none⟩ (.int .i64 u2s)).setCell ⟨y0.heap.size, 1, none⟩ (.int .i64 (A : Int))).setCell ⟨y0.heap.size, 2, none⟩ (.int .i64 (g2n : Int))).setCell ⟨y0.heap.size, 3, none⟩ (.int .i64 (q2n : Int))) := ⟨_, rfl⟩
              rw [← hz]
              have q7 : Q4 y58 y0.heap.size (.int .i64 u2s) (.int .i64 (A : Int)) (.int .i64 (g2n : Int)) (.int .i64 (q2n : Int)) := by rw [hz]; exact (((Q4.set0 ⟨⟨x0, x1, x2, x3⟩, x4, x5, x6, x7⟩ _).set1 _).set2 _).set3 _
              replace q6 : Q4 y58 y44.heap.size (.int .i64 u1s) (.int .i64 (C : Int)) (.int .i64 (p2n : Int)) (.int .i64 (g2n : Int)) := by rw [hz]; exact (((q6.far (by omega) _ _).far (by omega) _ _).far (by omega) _ _).far (by omega) _ _
              have n_ : New w3 y58 := by rw [hz]; exact (((M0.setCell l7 _).setCell l7 _).setCell l7 _).setCell l7 _
              refine hK.out _ _ ⟨by rw [hz]; exact World.cell_set (World.cell_set (World.cell_set (World.cell_set hHeld.1 (by simp; omega)) (by simp; omega)) (by simp; omega)) (by simp; omega), by rw [hz]; exact World.cell_set (World.cell_set (World.cell_set (World.cell_set hHeld.2.1 (by simp; omega)) (by simp; omega)) (by simp; omega)) (by simp; omega), by rw [hz]; exact World.cell_set (World.cell_set (World.cell_set (World.cell_set hHeld.2.2.1 (by simp; omega)) (by simp; omega)) (by simp; omega)) (by simp; omega), by rw [hz]; exact World.cell_set (World.cell_set (World.cell_set (World.cell_set hHeld.2.2.2.1 (by simp; omega)) (by simp; omega)) (by simp; omega)) (by simp; omega), by rw [hz]; exact World.cell_set (World.cell_set (World.cell_set (World.cell_set hHeld.2.2.2.2.1 (by simp; omega)) (by simp; omega)) (by simp; omega)) (by simp; omega), by rw [hz]; exact World.cell_set (World.cell_set (World.cell_set (World.cell_set hHeld.2.2.2.2.2 (by simp; omega)) (by simp; omega)) (by simp; omega)) (by simp; omega)⟩ (fun hHeld => ?_)
              clear hK K hz x0 x1 x2 x3 x4 x5 x6 x7
              (try simp only [Act.put, List.setIfInBounds_toArray, List.set_cons_zero, List.set_cons_succ])
              replace M0 := n_; clear n_
              refine wpAnyH_done (by kernel_rfl) ?_ _
              go_wp2_with fail
              go_meet
              exact ⟨_, _, rfl, rfl, M0, l6, l7, q6, q7⟩
            case rest =>
              obtain ⟨Ba, Bb, rfl, rfl, hn, hlo, hlo2, qa, qb⟩ := hcut
              obtain ⟨w5, rfl⟩ : ∃ u : World, u = wc := ⟨_, rfl⟩
              have N5 := Lib.hid (N3.out.trans hn)
              have lta := qa.lt; have ltb := qb.lt
              obtain ⟨⟨x0, x1, x2, x3⟩, _, _, _, _⟩ := qa
              obtain ⟨⟨z0, z1, z2, z3⟩, _, _, _, _⟩ := qb
              clear hn
              by_cases hb : betB p1 (p2n : Int) q1 (q2n : Int) g1 (g2n : Int) = true
              · have ss4 := SS.out.2 hb
                have WB := Lib.hid (M.out hb).1; have WM := Lib.hid (M.out hb).2
                rw [HR.out] at WB WM
                clear hb U M
                go_wp2_with fail
                refine (saCross_any _ u1s u2s A C p2n g2n q2n ⟨Ap, Ab⟩ ⟨Cp, Cb⟩ ⟨by omega, by omega⟩ ⟨by omega, by omega⟩ ⟨by omega, by omega⟩).mono ?_
                rintro e w6 ⟨P, Q, hPQ, rfl, n6⟩
                rw [hPQ] at WB WM
                have N6 := Lib.hid (N5.out.trans n6); clear n6 hPQ
                by_cases hP : P ≤ 1000000000
                · have e1 := cap1_yes hP
                  rw [e1.1, e1.2]
                  by_cases hQ : Q ≤ 1000000000
                  · have e2 := cap1_yes hQ
                    rw [e2.1, e2.2]
                    have HC := Lib.hid (show capP ((P : Int), (Q : Int)) = true by unfold capP; simp; omega)
                    have HX := Lib.hid (show capX ((P : Int), (Q : Int)) = ((P : Int), (Q : Int)) by unfold capX; rw [if_pos HC.out])
                    rw [HC.out] at WB; rw [HX.out] at WM
                    clear hP hQ e1 e2
                    rw [show (true && true) = true from rfl]
                    go_wp2
                    refine bodyPost_ret (v := .tuple #[.int .i64 (P : Int), .int .i64 (Q : Int), .bool true]) (by simp [results, Try.results13, go_sem]) rfl ⟨by rw [WM.out, WB.out], ?_⟩
                    have := N6.out
                    (repeat (first | with_reducible exact New.refl _ | with_reducible assumption | refine New.drewN ?_ _ | refine New.drew ?_ | refine New.alloc ?_ _ | refine New.setCell ?_ (by first | omega | (simp; omega) | (simp; done)) _ | (refine New.trans ?_ (by assumption))))
                  · have e2 := cap1_no hQ
                    rw [e2.1, e2.2]
                    have HC := Lib.hid (show capP ((P : Int), (Q : Int)) = false by unfold capP; simp; omega)
                    have HX := Lib.hid (show capX ((P : Int), (Q : Int)) = (0, 0) by unfold capX; rw [HC.out]; rfl)
                    rw [HC.out] at WB; rw [HX.out] at WM
                    clear hP hQ e1 e2
                    rw [show (true && false) = false from rfl]
                    go_wp2
                    refine bodyPost_ret (v := .tuple #[.int .i64 (0), .int .i64 (0), .bool false]) (by simp [results, Try.results13, go_sem]) rfl ⟨by rw [WM.out, WB.out], ?_⟩
                    have := N6.out
                    (repeat (first | with_reducible exact New.refl _ | with_reducible assumption | refine New.drewN ?_ _ | refine New.drew ?_ | refine New.alloc ?_ _ | refine New.setCell ?_ (by first | omega | (simp; omega) | (simp; done)) _ | (refine New.trans ?_ (by assumption))))
                · have e1 := cap1_no hP
                  rw [e1.1, e1.2]
                  have HC := Lib.hid (show capP ((P : Int), (Q : Int)) = false by unfold capP; simp; omega)
                  have HX := Lib.hid (show capX ((P : Int), (Q : Int)) = (0, 0) by unfold capX; rw [HC.out]; rfl)
                  rw [HC.out] at WB; rw [HX.out] at WM
                  clear hP e1
                  rw [show (false && cap1B Q) = false from rfl]
                  go_wp2
                  refine bodyPost_ret (v := .tuple #[.int .i64 (0), .int .i64 (0), .bool false]) (by simp [results, Try.results13, go_sem]) rfl ⟨by rw [WM.out, WB.out], ?_⟩
                  have := N6.out
                  (repeat (first | with_reducible exact New.refl _ | with_reducible assumption | refine New.drewN ?_ _ | refine New.drew ?_ | refine New.alloc ?_ _ | refine New.setCell ?_ (by first | omega | (simp; omega) | (simp; done)) _ | (refine New.trans ?_ (by assumption))))
              · have ss4 : u1s * u2s ≤ 0 := Int.not_lt.1 (fun h => hb (SS.out.1 h))
                have WB := Lib.hid (U.out (bool_no hb)).1; have WM := Lib.hid (U.out (bool_no hb)).2
                clear hb U M
                go_wp2
                refine bodyPost_ret (v := .tuple #[.int .i64 (0), .int .i64 (0), .bool false]) (by simp [results, Try.results13, go_sem]) rfl ⟨by rw [WM.out, WB.out], ?_⟩
                have := N5.out
                (repeat (first | with_reducible exact New.refl _ | with_reducible assumption | refine New.drewN ?_ _ | refine New.drew ?_ | refine New.alloc ?_ _ | refine New.setCell ?_ (by first | omega | (simp; omega) | (simp; done)) _ | (refine New.trans ?_ (by assumption))))
      · have hg := bool_no hg
        have G3 := Lib.hid hg
        have WB := Lib.hid (show blB p1 p2 q1 q2 g1 g2 = false by unfold blB; rw [hg]; simp)
        have WM := Lib.hid (blM_no WB.out)
        clear hp hq hg
        go_enter Try.func13, Try.ntmps13
        go_upto_region 1 with fail
        obtain ⟨v0, hv0⟩ : ∃ xx : World, xx = (((w.alloc (.cells #[.int .i64 p1, .int .i64 p2] 27)).alloc (.cells #[.int .i64 q1, .int .i64 q2] 27)).alloc (.cells #[.int .i64 g1, .int .i64 g2] 27)) := ⟨_, rfl⟩
        rw [← hv0]
        have l0_v0 : v0.cell? ⟨w.heap.size, 0, none⟩ = some (.int .i64 p1) := by rw [hv0]; simp [go_sem]
        have l1_v0 : v0.cell? ⟨w.heap.size, 1, none⟩ = some (.int .i64 p2) := by rw [hv0]; simp [go_sem]
        have m0_v0 : v0.cell? ⟨w.heap.size + 1, 0, none⟩ = some (.int .i64 q1) := by rw [hv0]; simp [go_sem]
        have m1_v0 : v0.cell? ⟨w.heap.size + 1, 1, none⟩ = some (.int .i64 q2) := by rw [hv0]; simp [go_sem]
        have h0_v0 : v0.cell? ⟨w.heap.size + 1 + 1, 0, none⟩ = some (.int .i64 g1) := by rw [hv0]; simp [go_sem]
        have h1_v0 : v0.cell? ⟨w.heap.size + 1 + 1, 1, none⟩ = some (.int .i64 g2) := by rw [hv0]; simp [go_sem]
        have N0 := Lib.hid (show New w v0 by rw [hv0]; exact (by repeat (first | with_reducible exact New.refl _ | with_reducible assumption | refine New.drewN ?_ _ | refine New.drew ?_ | refine New.alloc ?_ _ | refine New.setCell ?_ (by first | omega | (simp; omega) | (simp; done)) _ | (refine New.trans ?_ (by assumption)))))
        have zv0 : w.heap.size + 1 + 1 < v0.heap.size := by rw [hv0]; simp
        clear hv0
        go_wp2_with fail
        refine (saGood_any _ p1 p2).mono ?_
        rintro e w1 ⟨rfl, n_w1⟩
        rw [G1.out]
        have l0_w1 : w1.cell? ⟨w.heap.size, 0, none⟩ = some (.int .i64 p1) := n_w1.cell l0_v0; have l1_w1 : w1.cell? ⟨w.heap.size, 1, none⟩ = some (.int .i64 p2) := n_w1.cell l1_v0; have m0_w1 : w1.cell? ⟨w.heap.size + 1, 0, none⟩ = some (.int .i64 q1) := n_w1.cell m0_v0; have m1_w1 : w1.cell? ⟨w.heap.size + 1, 1, none⟩ = some (.int .i64 q2) := n_w1.cell m1_v0; have h0_w1 : w1.cell? ⟨w.heap.size + 1 + 1, 0, none⟩ = some (.int .i64 g1) := n_w1.cell h0_v0; have h1_w1 : w1.cell? ⟨w.heap.size + 1 + 1, 1, none⟩ = some (.int .i64 g2) := n_w1.cell h1_v0
        have N1 := Lib.hid (N0.out.trans n_w1)
        clear n_w1 l0_v0 l1_v0 m0_v0 m1_v0 h0_v0 h1_v0
        go_wp2_with fail
        refine (saGood_any _ q1 q2).mono ?_
        rintro e w2 ⟨rfl, n_w2⟩
        rw [G2.out]
        have l0_w2 : w2.cell? ⟨w.heap.size, 0, none⟩ = some (.int .i64 p1) := n_w2.cell l0_w1; have l1_w2 : w2.cell? ⟨w.heap.size, 1, none⟩ = some (.int .i64 p2) := n_w2.cell l1_w1; have m0_w2 : w2.cell? ⟨w.heap.size + 1, 0, none⟩ = some (.int .i64 q1) := n_w2.cell m0_w1; have m1_w2 : w2.cell? ⟨w.heap.size + 1, 1, none⟩ = some (.int .i64 q2) := n_w2.cell m1_w1; have h0_w2 : w2.cell? ⟨w.heap.size + 1 + 1, 0, none⟩ = some (.int .i64 g1) := n_w2.cell h0_w1; have h1_w2 : w2.cell? ⟨w.heap.size + 1 + 1, 1, none⟩ = some (.int .i64 g2) := n_w2.cell h1_w1
        have N2 := Lib.hid (N1.out.trans n_w2)
        clear n_w2 l0_w1 l1_w1 m0_w1 m1_w1 h0_w1 h1_w1
        go_wp2_with fail
        refine (saGood_any _ g1 g2).mono ?_
        rintro e w3 ⟨rfl, n_w3⟩
        rw [G3.out]
        have l0_w3 : w3.cell? ⟨w.heap.size, 0, none⟩ = some (.int .i64 p1) := n_w3.cell l0_w2; have l1_w3 : w3.cell? ⟨w.heap.size, 1, none⟩ = some (.int .i64 p2) := n_w3.cell l1_w2; have m0_w3 : w3.cell? ⟨w.heap.size + 1, 0, none⟩ = some (.int .i64 q1) := n_w3.cell m0_w2; have m1_w3 : w3.cell? ⟨w.heap.size + 1, 1, none⟩ = some (.int .i64 q2) := n_w3.cell m1_w2; have h0_w3 : w3.cell? ⟨w.heap.size + 1 + 1, 0, none⟩ = some (.int .i64 g1) := n_w3.cell h0_w2; have h1_w3 : w3.cell? ⟨w.heap.size + 1 + 1, 1, none⟩ = some (.int .i64 g2) := n_w3.cell h1_w2
        have N3 := Lib.hid (N2.out.trans n_w3)
        clear n_w3 l0_w2 l1_w2 m0_w2 m1_w2 h0_w2 h1_w2
        go_wp2
        refine bodyPost_ret (v := .tuple #[.int .i64 (0), .int .i64 (0), .bool false]) (by simp [results, Try.results13, go_sem]) rfl ⟨by rw [WM.out, WB.out], ?_⟩
        have := N3.out
        (repeat (first | with_reducible exact New.refl _ | with_reducible assumption | refine New.drewN ?_ _ | refine New.drew ?_ | refine New.alloc ?_ _ | refine New.setCell ?_ (by first | omega | (simp; omega) | (simp; done)) _ | (refine New.trans ?_ (by assumption))))
    · have hq := bool_no hq
      have G2 := Lib.hid hq
      have WB := Lib.hid (show blB p1 p2 q1 q2 g1 g2 = false by unfold blB; rw [hq]; simp)
      have WM := Lib.hid (blM_no WB.out)
      clear hp hq
      go_enter Try.func13, Try.ntmps13
      go_upto_region 1 with fail
      obtain ⟨v0, hv0⟩ : ∃ xx : World, xx = (((w.alloc (.cells #[.int .i64 p1, .int .i64 p2] 27)).alloc (.cells #[.int .i64 q1, .int .i64 q2] 27)).alloc (.cells #[.int .i64 g1, .int .i64 g2] 27)) := ⟨_, rfl⟩
      rw [← hv0]
      have l0_v0 : v0.cell? ⟨w.heap.size, 0, none⟩ = some (.int .i64 p1) := by rw [hv0]; simp [go_sem]
      have l1_v0 : v0.cell? ⟨w.heap.size, 1, none⟩ = some (.int .i64 p2) := by rw [hv0]; simp [go_sem]
      have m0_v0 : v0.cell? ⟨w.heap.size + 1, 0, none⟩ = some (.int .i64 q1) := by rw [hv0]; simp [go_sem]
      have m1_v0 : v0.cell? ⟨w.heap.size + 1, 1, none⟩ = some (.int .i64 q2) := by rw [hv0]; simp [go_sem]
      have h0_v0 : v0.cell? ⟨w.heap.size + 1 + 1, 0, none⟩ = some (.int .i64 g1) := by rw [hv0]; simp [go_sem]
      have h1_v0 : v0.cell? ⟨w.heap.size + 1 + 1, 1, none⟩ = some (.int .i64 g2) := by rw [hv0]; simp [go_sem]
      have N0 := Lib.hid (show New w v0 by rw [hv0]; exact (by repeat (first | with_reducible exact New.refl _ | with_reducible assumption | refine New.drewN ?_ _ | refine New.drew ?_ | refine New.alloc ?_ _ | refine New.setCell ?_ (by first | omega | (simp; omega) | (simp; done)) _ | (refine New.trans ?_ (by assumption)))))
      have zv0 : w.heap.size + 1 + 1 < v0.heap.size := by rw [hv0]; simp
      clear hv0
      go_wp2_with fail
      refine (saGood_any _ p1 p2).mono ?_
      rintro e w1 ⟨rfl, n_w1⟩
      rw [G1.out]
      have l0_w1 : w1.cell? ⟨w.heap.size, 0, none⟩ = some (.int .i64 p1) := n_w1.cell l0_v0; have l1_w1 : w1.cell? ⟨w.heap.size, 1, none⟩ = some (.int .i64 p2) := n_w1.cell l1_v0; have m0_w1 : w1.cell? ⟨w.heap.size + 1, 0, none⟩ = some (.int .i64 q1) := n_w1.cell m0_v0; have m1_w1 : w1.cell? ⟨w.heap.size + 1, 1, none⟩ = some (.int .i64 q2) := n_w1.cell m1_v0; have h0_w1 : w1.cell? ⟨w.heap.size + 1 + 1, 0, none⟩ = some (.int .i64 g1) := n_w1.cell h0_v0; have h1_w1 : w1.cell? ⟨w.heap.size + 1 + 1, 1, none⟩ = some (.int .i64 g2) := n_w1.cell h1_v0
      have N1 := Lib.hid (N0.out.trans n_w1)
      clear n_w1 l0_v0 l1_v0 m0_v0 m1_v0 h0_v0 h1_v0
      go_wp2_with fail
      refine (saGood_any _ q1 q2).mono ?_
      rintro e w2 ⟨rfl, n_w2⟩
      rw [G2.out]
      have l0_w2 : w2.cell? ⟨w.heap.size, 0, none⟩ = some (.int .i64 p1) := n_w2.cell l0_w1; have l1_w2 : w2.cell? ⟨w.heap.size, 1, none⟩ = some (.int .i64 p2) := n_w2.cell l1_w1; have m0_w2 : w2.cell? ⟨w.heap.size + 1, 0, none⟩ = some (.int .i64 q1) := n_w2.cell m0_w1; have m1_w2 : w2.cell? ⟨w.heap.size + 1, 1, none⟩ = some (.int .i64 q2) := n_w2.cell m1_w1; have h0_w2 : w2.cell? ⟨w.heap.size + 1 + 1, 0, none⟩ = some (.int .i64 g1) := n_w2.cell h0_w1; have h1_w2 : w2.cell? ⟨w.heap.size + 1 + 1, 1, none⟩ = some (.int .i64 g2) := n_w2.cell h1_w1
      have N2 := Lib.hid (N1.out.trans n_w2)
      clear n_w2 l0_w1 l1_w1 m0_w1 m1_w1 h0_w1 h1_w1
      go_wp2
      refine bodyPost_ret (v := .tuple #[.int .i64 (0), .int .i64 (0), .bool false]) (by simp [results, Try.results13, go_sem]) rfl ⟨by rw [WM.out, WB.out], ?_⟩
      have := N2.out
      (repeat (first | with_reducible exact New.refl _ | with_reducible assumption | refine New.drewN ?_ _ | refine New.drew ?_ | refine New.alloc ?_ _ | refine New.setCell ?_ (by first | omega | (simp; omega) | (simp; done)) _ | (refine New.trans ?_ (by assumption))))
  · have hp := bool_no hp
    have G1 := Lib.hid hp
    have WB := Lib.hid (show blB p1 p2 q1 q2 g1 g2 = false by unfold blB; rw [hp]; rfl)
    have WM := Lib.hid (blM_no WB.out)
    clear hp
    go_enter Try.func13, Try.ntmps13
    go_upto_region 1 with fail
    obtain ⟨v0, hv0⟩ : ∃ xx : World, xx = (((w.alloc (.cells #[.int .i64 p1, .int .i64 p2] 27)).alloc (.cells #[.int .i64 q1, .int .i64 q2] 27)).alloc (.cells #[.int .i64 g1, .int .i64 g2] 27)) := ⟨_, rfl⟩
    rw [← hv0]
    have l0_v0 : v0.cell? ⟨w.heap.size, 0, none⟩ = some (.int .i64 p1) := by rw [hv0]; simp [go_sem]
    have l1_v0 : v0.cell? ⟨w.heap.size, 1, none⟩ = some (.int .i64 p2) := by rw [hv0]; simp [go_sem]
    have m0_v0 : v0.cell? ⟨w.heap.size + 1, 0, none⟩ = some (.int .i64 q1) := by rw [hv0]; simp [go_sem]
    have m1_v0 : v0.cell? ⟨w.heap.size + 1, 1, none⟩ = some (.int .i64 q2) := by rw [hv0]; simp [go_sem]
    have h0_v0 : v0.cell? ⟨w.heap.size + 1 + 1, 0, none⟩ = some (.int .i64 g1) := by rw [hv0]; simp [go_sem]
    have h1_v0 : v0.cell? ⟨w.heap.size + 1 + 1, 1, none⟩ = some (.int .i64 g2) := by rw [hv0]; simp [go_sem]
    have N0 := Lib.hid (show New w v0 by rw [hv0]; exact (by repeat (first | with_reducible exact New.refl _ | with_reducible assumption | refine New.drewN ?_ _ | refine New.drew ?_ | refine New.alloc ?_ _ | refine New.setCell ?_ (by first | omega | (simp; omega) | (simp; done)) _ | (refine New.trans ?_ (by assumption)))))
    have zv0 : w.heap.size + 1 + 1 < v0.heap.size := by rw [hv0]; simp
    clear hv0
    go_wp2_with fail
    refine (saGood_any _ p1 p2).mono ?_
    rintro e w1 ⟨rfl, n_w1⟩
    rw [G1.out]
    have l0_w1 : w1.cell? ⟨w.heap.size, 0, none⟩ = some (.int .i64 p1) := n_w1.cell l0_v0; have l1_w1 : w1.cell? ⟨w.heap.size, 1, none⟩ = some (.int .i64 p2) := n_w1.cell l1_v0; have m0_w1 : w1.cell? ⟨w.heap.size + 1, 0, none⟩ = some (.int .i64 q1) := n_w1.cell m0_v0; have m1_w1 : w1.cell? ⟨w.heap.size + 1, 1, none⟩ = some (.int .i64 q2) := n_w1.cell m1_v0; have h0_w1 : w1.cell? ⟨w.heap.size + 1 + 1, 0, none⟩ = some (.int .i64 g1) := n_w1.cell h0_v0; have h1_w1 : w1.cell? ⟨w.heap.size + 1 + 1, 1, none⟩ = some (.int .i64 g2) := n_w1.cell h1_v0
    have N1 := Lib.hid (N0.out.trans n_w1)
    clear n_w1 l0_v0 l1_v0 m0_v0 m1_v0 h0_v0 h1_v0
    go_wp2
    refine bodyPost_ret (v := .tuple #[.int .i64 (0), .int .i64 (0), .bool false]) (by simp [results, Try.results13, go_sem]) rfl ⟨by rw [WM.out, WB.out], ?_⟩
    have := N1.out
    (repeat (first | with_reducible exact New.refl _ | with_reducible assumption | refine New.drewN ?_ _ | refine New.drew ?_ | refine New.alloc ?_ _ | refine New.setCell ?_ (by first | omega | (simp; omega) | (simp; done)) _ | (refine New.trans ?_ (by assumption))))
end Go.Proofs.Ytefpnlimkelehaa
