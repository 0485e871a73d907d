/- BlendAmounts, what it comes to, and the program's. -/
import Derived.Test.YtefpnlimkelehaaBlend
namespace Go.Proofs.Ytefpnlimkelehaa
open Go.RowKit Go.IntWalk

/-- The least amounts, a goal lying between. -/
def blR (p1 p2 q1 q2 g1 g2 : Int) : Int × Int := red (((q1 * g2 - g1 * q2).natAbs : Nat) * p2) (((p1 * g2 - g1 * p2).natAbs : Nat) * q2)
def betB (p1 p2 q1 q2 g1 g2 : Int) : Bool := decide (p1 * g2 < g1 * p2) == decide (g1 * q2 < q1 * g2)
def blB (p1 p2 q1 q2 g1 g2 : Int) : Bool := sgR p1 p2 && sgR q1 q2 && sgR g1 g2 && (decide (g1 = p1 ∧ g2 = p2) || decide (g1 = q1 ∧ g2 = q2) || (betB p1 p2 q1 q2 g1 g2 && capP (blR p1 p2 q1 q2 g1 g2)))
def blM (p1 p2 q1 q2 g1 g2 : Int) : Int × Int :=
  if blB p1 p2 q1 q2 g1 g2 = true then (if g1 = p1 ∧ g2 = p2 then (1, 0) else if g1 = q1 ∧ g2 = q2 then (0, 1) else blR p1 p2 q1 q2 g1 g2) else (0, 0)
theorem blM_no {p1 p2 q1 q2 g1 g2 : Int} (h : blB p1 p2 q1 q2 g1 g2 = false) : blM p1 p2 q1 q2 g1 g2 = (0, 0) := by unfold blM; rw [h]; rfl
section
variable {p1 p2 q1 q2 g1 g2 : Int} (hp : sgR p1 p2 = true) (hq : sgR q1 q2 = true) (hg : sgR g1 g2 = true)
include hp hq hg
theorem bl_p (e : g1 = p1 ∧ g2 = p2) : blB p1 p2 q1 q2 g1 g2 = true ∧ blM p1 p2 q1 q2 g1 g2 = (1, 0) := by
  have h : blB p1 p2 q1 q2 g1 g2 = true := by unfold blB; rw [hp, hq, hg, decide_eq_true e]; simp
  exact ⟨h, by unfold blM; rw [if_pos h, if_pos e]⟩
theorem bl_q (n : ¬ (g1 = p1 ∧ g2 = p2)) (e : g1 = q1 ∧ g2 = q2) : blB p1 p2 q1 q2 g1 g2 = true ∧ blM p1 p2 q1 q2 g1 g2 = (0, 1) := by
  have h : blB p1 p2 q1 q2 g1 g2 = true := by unfold blB; rw [hp, hq, hg, decide_eq_true e]; simp
  exact ⟨h, by unfold blM; rw [if_pos h, if_neg n, if_pos e]⟩
theorem bl_mid (n : ¬ (g1 = p1 ∧ g2 = p2)) (m : ¬ (g1 = q1 ∧ g2 = q2)) (b : betB p1 p2 q1 q2 g1 g2 = true) : blB p1 p2 q1 q2 g1 g2 = capP (blR p1 p2 q1 q2 g1 g2) ∧ blM p1 p2 q1 q2 g1 g2 = capX (blR p1 p2 q1 q2 g1 g2) := by
  have h : blB p1 p2 q1 q2 g1 g2 = capP (blR p1 p2 q1 q2 g1 g2) := by unfold blB; rw [b, hp, hq, hg, decide_eq_false n, decide_eq_false m]; simp
  exact ⟨h, by unfold blM capX; rw [h, if_neg n, if_neg m]⟩
omit hp hq hg
theorem bl_out (n : ¬ (g1 = p1 ∧ g2 = p2)) (m : ¬ (g1 = q1 ∧ g2 = q2)) (b : betB p1 p2 q1 q2 g1 g2 = false) : blB p1 p2 q1 q2 g1 g2 = false ∧ blM p1 p2 q1 q2 g1 g2 = (0, 0) := by
  have h : blB p1 p2 q1 q2 g1 g2 = false := by unfold blB; rw [b, decide_eq_false n, decide_eq_false m]; simp
  exact ⟨h, blM_no h⟩
theorem beq_no {a b : Bool} (h : (a == b) = false) : a = !b := by cases a <;> cases b <;> simp_all
theorem beq_yes {a b : Bool} (h : (a == b) = true) : a = b := by cases a <;> cases b <;> simp_all
theorem gap_pos {a b c d : Int} (h : sgR a b = true) (k : sgR c d = true) (n : ¬ (c = a ∧ d = b)) : 0 < (a * d - c * b).natAbs := by
  obtain ⟨⟨h1, _⟩, _, h3⟩ := sgR_iff.1 h
  obtain ⟨⟨k1, _⟩, _, k3⟩ := sgR_iff.1 k
  rcases Nat.eq_zero_or_pos (a * d - c * b).natAbs with e | e
  · exact absurd (cross_eq (a := c) (b := d) (a' := a) (b' := b) (by omega) (by omega) k3 h3 (by omega)) n
  · exact e
end

theorem sg_mul2 {x y c d : Int} (h : sgR x y = true) (k : sgR c d = true) : -1000000000000000000 ≤ x * d ∧ x * d ≤ 1000000000000000000 := by
  obtain ⟨_, ⟨a1, a2⟩, _⟩ := sgR_iff.1 h
  obtain ⟨⟨b1, b2⟩, _, _⟩ := sgR_iff.1 k
  have k1 := Int.mul_le_mul_of_nonneg_right a2 (show 0 ≤ d by omega)
  have k2 := Int.mul_le_mul_of_nonneg_right a1 (show 0 ≤ d by omega)
  omega

set_option maxRecDepth 100000 in
set_option maxHeartbeats 8000000 in
theorem iBlendAmounts_any (w : World) (p1 p2 q1 q2 g1 g2 : Int) :
    Calls Try.prog 12 #[ratV (p1, p2), ratV (q1, q2), ratV (g1, g2)] w fun e w' => e = .returned (.tuple #[.int .i64 (blM p1 p2 q1 q2 g1 g2).1, .int .i64 (blM p1 p2 q1 q2 g1 g2).2, .bool (blB p1 p2 q1 q2 g1 g2)]) ∧ New w w' := by
  by_cases hp : sgR p1 p2 = true
  · have G1 := Lib.hid hp
    by_cases hq : sgR q1 q2 = true
    · have G2 := Lib.hid hq
      by_cases hg : sgR g1 g2 = true
      · have G3 := Lib.hid hg
        by_cases ep : g1 = p1 ∧ g2 = p2
        · have W := bl_p hp hq hg ep
          have WB := Lib.hid W.1; have WM := Lib.hid W.2; clear W hp hq hg
          obtain ⟨rfl, rfl⟩ := ep
          go_enter Try.func12, Try.ntmps12
          go_upto_region 1 with fail
          obtain ⟨v0, hv0⟩ : ∃ xx : World, xx = (((w.alloc (.cells #[.int .i64 g1, .int .i64 g2] 27)).alloc (.cells #[.int .i64 q1, .int .i64 q2] 27)).alloc (.cells #[.int .i64 g1, .int .i64 g2] 27)) := ⟨_, rfl⟩
          rw [← hv0]
          have l0_v0 : v0.cell? ⟨w.heap.size, 0, none⟩ = some (.int .i64 g1) := by rw [hv0]; simp [go_sem]
          have l1_v0 : v0.cell? ⟨w.heap.size, 1, none⟩ = some (.int .i64 g2) := by rw [hv0]; simp [go_sem]
          have m0_v0 : v0.cell? ⟨w.heap.size + 1, 0, none⟩ = some (.int .i64 q1) := by rw [hv0]; simp [go_sem]
          have m1_v0 : v0.cell? ⟨w.heap.size + 1, 1, none⟩ = some (.int .i64 q2) := by rw [hv0]; simp [go_sem]
          have h0_v0 : v0.cell? ⟨w.heap.size + 1 + 1, 0, none⟩ = some (.int .i64 g1) := by rw [hv0]; simp [go_sem]
          have h1_v0 : v0.cell? ⟨w.heap.size + 1 + 1, 1, none⟩ = some (.int .i64 g2) := by rw [hv0]; simp [go_sem]
          have N0 := Lib.hid (show New w v0 by rw [hv0]; exact (by repeat (first | with_reducible exact New.refl _ | with_reducible assumption | refine New.drewN ?_ _ | refine New.drew ?_ | refine New.alloc ?_ _ | refine New.setCell ?_ (by first | omega | (simp; omega) | (simp; done)) _ | (refine New.trans ?_ (by assumption)))))
          have zv0 : w.heap.size + 1 + 1 < v0.heap.size := by rw [hv0]; simp
          clear hv0
          go_wp2_with fail
          refine (iIsRatio_any _ g1 g2).mono ?_
          rintro e w1 ⟨rfl, n_w1⟩
          rw [G1.out]
          have l0_w1 : w1.cell? ⟨w.heap.size, 0, none⟩ = some (.int .i64 g1) := n_w1.cell l0_v0; have l1_w1 : w1.cell? ⟨w.heap.size, 1, none⟩ = some (.int .i64 g2) := n_w1.cell l1_v0; have m0_w1 : w1.cell? ⟨w.heap.size + 1, 0, none⟩ = some (.int .i64 q1) := n_w1.cell m0_v0; have m1_w1 : w1.cell? ⟨w.heap.size + 1, 1, none⟩ = some (.int .i64 q2) := n_w1.cell m1_v0; have h0_w1 : w1.cell? ⟨w.heap.size + 1 + 1, 0, none⟩ = some (.int .i64 g1) := n_w1.cell h0_v0; have h1_w1 : w1.cell? ⟨w.heap.size + 1 + 1, 1, none⟩ = some (.int .i64 g2) := n_w1.cell h1_v0
          have N1 := Lib.hid (N0.out.trans n_w1)
          clear n_w1 l0_v0 l1_v0 m0_v0 m1_v0 h0_v0 h1_v0
          go_wp2_with fail
          refine (iIsRatio_any _ q1 q2).mono ?_
          rintro e w2 ⟨rfl, n_w2⟩
          rw [G2.out]
          have l0_w2 : w2.cell? ⟨w.heap.size, 0, none⟩ = some (.int .i64 g1) := n_w2.cell l0_w1; have l1_w2 : w2.cell? ⟨w.heap.size, 1, none⟩ = some (.int .i64 g2) := n_w2.cell l1_w1; have m0_w2 : w2.cell? ⟨w.heap.size + 1, 0, none⟩ = some (.int .i64 q1) := n_w2.cell m0_w1; have m1_w2 : w2.cell? ⟨w.heap.size + 1, 1, none⟩ = some (.int .i64 q2) := n_w2.cell m1_w1; have h0_w2 : w2.cell? ⟨w.heap.size + 1 + 1, 0, none⟩ = some (.int .i64 g1) := n_w2.cell h0_w1; have h1_w2 : w2.cell? ⟨w.heap.size + 1 + 1, 1, none⟩ = some (.int .i64 g2) := n_w2.cell h1_w1
          have N2 := Lib.hid (N1.out.trans n_w2)
          clear n_w2 l0_w1 l1_w1 m0_w1 m1_w1 h0_w1 h1_w1
          go_wp2_with fail
          refine (iIsRatio_any _ g1 g2).mono ?_
          rintro e w3 ⟨rfl, n_w3⟩
          rw [G3.out]
          have l0_w3 : w3.cell? ⟨w.heap.size, 0, none⟩ = some (.int .i64 g1) := n_w3.cell l0_w2; have l1_w3 : w3.cell? ⟨w.heap.size, 1, none⟩ = some (.int .i64 g2) := n_w3.cell l1_w2; have m0_w3 : w3.cell? ⟨w.heap.size + 1, 0, none⟩ = some (.int .i64 q1) := n_w3.cell m0_w2; have m1_w3 : w3.cell? ⟨w.heap.size + 1, 1, none⟩ = some (.int .i64 q2) := n_w3.cell m1_w2; have h0_w3 : w3.cell? ⟨w.heap.size + 1 + 1, 0, none⟩ = some (.int .i64 g1) := n_w3.cell h0_w2; have h1_w3 : w3.cell? ⟨w.heap.size + 1 + 1, 1, none⟩ = some (.int .i64 g2) := n_w3.cell h1_w2
          have N3 := Lib.hid (N2.out.trans n_w3)
          clear n_w3 l0_w2 l1_w2 m0_w2 m1_w2 h0_w2 h1_w2
          go_wp2
          refine bodyPost_ret (v := .tuple #[.int .i64 (1), .int .i64 (0), .bool true]) (by simp [results, Try.results12, go_sem]) rfl ⟨by rw [WM.out, WB.out], ?_⟩
          have := N3.out
          (repeat (first | with_reducible exact New.refl _ | with_reducible assumption | refine New.drewN ?_ _ | refine New.drew ?_ | refine New.alloc ?_ _ | refine New.setCell ?_ (by first | omega | (simp; omega) | (simp; done)) _ | (refine New.trans ?_ (by assumption))))
        · by_cases eq : g1 = q1 ∧ g2 = q2
          · have W := bl_q hp hq hg ep eq
            have WB := Lib.hid W.1; have WM := Lib.hid W.2; clear W hp hq hg
            obtain ⟨rfl, rfl⟩ := eq
            by_cases e1 : g1 = p1
            · have e2 : ¬ g2 = p2 := fun h => ep ⟨e1, h⟩
              clear ep
              subst e1
              go_enter Try.func12, Try.ntmps12
              go_upto_region 1 with fail
              obtain ⟨v0, hv0⟩ : ∃ xx : World, xx = (((w.alloc (.cells #[.int .i64 g1, .int .i64 p2] 27)).alloc (.cells #[.int .i64 g1, .int .i64 g2] 27)).alloc (.cells #[.int .i64 g1, .int .i64 g2] 27)) := ⟨_, rfl⟩
              rw [← hv0]
              have l0_v0 : v0.cell? ⟨w.heap.size, 0, none⟩ = some (.int .i64 g1) := by rw [hv0]; simp [go_sem]
              have l1_v0 : v0.cell? ⟨w.heap.size, 1, none⟩ = some (.int .i64 p2) := by rw [hv0]; simp [go_sem]
              have m0_v0 : v0.cell? ⟨w.heap.size + 1, 0, none⟩ = some (.int .i64 g1) := by rw [hv0]; simp [go_sem]
              have m1_v0 : v0.cell? ⟨w.heap.size + 1, 1, none⟩ = some (.int .i64 g2) := by rw [hv0]; simp [go_sem]
              have h0_v0 : v0.cell? ⟨w.heap.size + 1 + 1, 0, none⟩ = some (.int .i64 g1) := by rw [hv0]; simp [go_sem]
              have h1_v0 : v0.cell? ⟨w.heap.size + 1 + 1, 1, none⟩ = some (.int .i64 g2) := by rw [hv0]; simp [go_sem]
              have N0 := Lib.hid (show New w v0 by rw [hv0]; exact (by repeat (first | with_reducible exact New.refl _ | with_reducible assumption | refine New.drewN ?_ _ | refine New.drew ?_ | refine New.alloc ?_ _ | refine New.setCell ?_ (by first | omega | (simp; omega) | (simp; done)) _ | (refine New.trans ?_ (by assumption)))))
              have zv0 : w.heap.size + 1 + 1 < v0.heap.size := by rw [hv0]; simp
              clear hv0
              go_wp2_with fail
              refine (iIsRatio_any _ g1 p2).mono ?_
              rintro e w1 ⟨rfl, n_w1⟩
              rw [G1.out]
              have l0_w1 : w1.cell? ⟨w.heap.size, 0, none⟩ = some (.int .i64 g1) := n_w1.cell l0_v0; have l1_w1 : w1.cell? ⟨w.heap.size, 1, none⟩ = some (.int .i64 p2) := n_w1.cell l1_v0; have m0_w1 : w1.cell? ⟨w.heap.size + 1, 0, none⟩ = some (.int .i64 g1) := n_w1.cell m0_v0; have m1_w1 : w1.cell? ⟨w.heap.size + 1, 1, none⟩ = some (.int .i64 g2) := n_w1.cell m1_v0; have h0_w1 : w1.cell? ⟨w.heap.size + 1 + 1, 0, none⟩ = some (.int .i64 g1) := n_w1.cell h0_v0; have h1_w1 : w1.cell? ⟨w.heap.size + 1 + 1, 1, none⟩ = some (.int .i64 g2) := n_w1.cell h1_v0
              have N1 := Lib.hid (N0.out.trans n_w1)
              clear n_w1 l0_v0 l1_v0 m0_v0 m1_v0 h0_v0 h1_v0
              go_wp2_with fail
              refine (iIsRatio_any _ g1 g2).mono ?_
              rintro e w2 ⟨rfl, n_w2⟩
              rw [G2.out]
              have l0_w2 : w2.cell? ⟨w.heap.size, 0, none⟩ = some (.int .i64 g1) := n_w2.cell l0_w1; have l1_w2 : w2.cell? ⟨w.heap.size, 1, none⟩ = some (.int .i64 p2) := n_w2.cell l1_w1; have m0_w2 : w2.cell? ⟨w.heap.size + 1, 0, none⟩ = some (.int .i64 g1) := n_w2.cell m0_w1; have m1_w2 : w2.cell? ⟨w.heap.size + 1, 1, none⟩ = some (.int .i64 g2) := n_w2.cell m1_w1; have h0_w2 : w2.cell? ⟨w.heap.size + 1 + 1, 0, none⟩ = some (.int .i64 g1) := n_w2.cell h0_w1; have h1_w2 : w2.cell? ⟨w.heap.size + 1 + 1, 1, none⟩ = some (.int .i64 g2) := n_w2.cell h1_w1
              have N2 := Lib.hid (N1.out.trans n_w2)
              clear n_w2 l0_w1 l1_w1 m0_w1 m1_w1 h0_w1 h1_w1
              go_wp2_with fail
              refine (iIsRatio_any _ g1 g2).mono ?_
              rintro e w3 ⟨rfl, n_w3⟩
              rw [G3.out]
              have l0_w3 : w3.cell? ⟨w.heap.size, 0, none⟩ = some (.int .i64 g1) := n_w3.cell l0_w2; have l1_w3 : w3.cell? ⟨w.heap.size, 1, none⟩ = some (.int .i64 p2) := n_w3.cell l1_w2; have m0_w3 : w3.cell? ⟨w.heap.size + 1, 0, none⟩ = some (.int .i64 g1) := n_w3.cell m0_w2; have m1_w3 : w3.cell? ⟨w.heap.size + 1, 1, none⟩ = some (.int .i64 g2) := n_w3.cell m1_w2; have h0_w3 : w3.cell? ⟨w.heap.size + 1 + 1, 0, none⟩ = some (.int .i64 g1) := n_w3.cell h0_w2; have h1_w3 : w3.cell? ⟨w.heap.size + 1 + 1, 1, none⟩ = some (.int .i64 g2) := n_w3.cell h1_w2
              have N3 := Lib.hid (N2.out.trans n_w3)
              clear n_w3 l0_w2 l1_w2 m0_w2 m1_w2 h0_w2 h1_w2
              go_wp2
              refine bodyPost_ret (v := .tuple #[.int .i64 (0), .int .i64 (1), .bool true]) (by simp [results, Try.results12, go_sem]) rfl ⟨by rw [WM.out, WB.out], ?_⟩
              have := N3.out
              (repeat (first | with_reducible exact New.refl _ | with_reducible assumption | refine New.drewN ?_ _ | refine New.drew ?_ | refine New.alloc ?_ _ | refine New.setCell ?_ (by first | omega | (simp; omega) | (simp; done)) _ | (refine New.trans ?_ (by assumption))))
            · clear ep
              go_enter Try.func12, Try.ntmps12
              go_upto_region 1 with fail
              obtain ⟨v0, hv0⟩ : ∃ xx : World, xx = (((w.alloc (.cells #[.int .i64 p1, .int .i64 p2] 27)).alloc (.cells #[.int .i64 g1, .int .i64 g2] 27)).alloc (.cells #[.int .i64 g1, .int .i64 g2] 27)) := ⟨_, rfl⟩
              rw [← hv0]
              have l0_v0 : v0.cell? ⟨w.heap.size, 0, none⟩ = some (.int .i64 p1) := by rw [hv0]; simp [go_sem]
              have l1_v0 : v0.cell? ⟨w.heap.size, 1, none⟩ = some (.int .i64 p2) := by rw [hv0]; simp [go_sem]
              have m0_v0 : v0.cell? ⟨w.heap.size + 1, 0, none⟩ = some (.int .i64 g1) := by rw [hv0]; simp [go_sem]
              have m1_v0 : v0.cell? ⟨w.heap.size + 1, 1, none⟩ = some (.int .i64 g2) := by rw [hv0]; simp [go_sem]
              have h0_v0 : v0.cell? ⟨w.heap.size + 1 + 1, 0, none⟩ = some (.int .i64 g1) := by rw [hv0]; simp [go_sem]
              have h1_v0 : v0.cell? ⟨w.heap.size + 1 + 1, 1, none⟩ = some (.int .i64 g2) := by rw [hv0]; simp [go_sem]
              have N0 := Lib.hid (show New w v0 by rw [hv0]; exact (by repeat (first | with_reducible exact New.refl _ | with_reducible assumption | refine New.drewN ?_ _ | refine New.drew ?_ | refine New.alloc ?_ _ | refine New.setCell ?_ (by first | omega | (simp; omega) | (simp; done)) _ | (refine New.trans ?_ (by assumption)))))
              have zv0 : w.heap.size + 1 + 1 < v0.heap.size := by rw [hv0]; simp
              clear hv0
              go_wp2_with fail
              refine (iIsRatio_any _ p1 p2).mono ?_
              rintro e w1 ⟨rfl, n_w1⟩
              rw [G1.out]
              have l0_w1 : w1.cell? ⟨w.heap.size, 0, none⟩ = some (.int .i64 p1) := n_w1.cell l0_v0; have l1_w1 : w1.cell? ⟨w.heap.size, 1, none⟩ = some (.int .i64 p2) := n_w1.cell l1_v0; have m0_w1 : w1.cell? ⟨w.heap.size + 1, 0, none⟩ = some (.int .i64 g1) := n_w1.cell m0_v0; have m1_w1 : w1.cell? ⟨w.heap.size + 1, 1, none⟩ = some (.int .i64 g2) := n_w1.cell m1_v0; have h0_w1 : w1.cell? ⟨w.heap.size + 1 + 1, 0, none⟩ = some (.int .i64 g1) := n_w1.cell h0_v0; have h1_w1 : w1.cell? ⟨w.heap.size + 1 + 1, 1, none⟩ = some (.int .i64 g2) := n_w1.cell h1_v0
              have N1 := Lib.hid (N0.out.trans n_w1)
              clear n_w1 l0_v0 l1_v0 m0_v0 m1_v0 h0_v0 h1_v0
              go_wp2_with fail
              refine (iIsRatio_any _ g1 g2).mono ?_
              rintro e w2 ⟨rfl, n_w2⟩
              rw [G2.out]
              have l0_w2 : w2.cell? ⟨w.heap.size, 0, none⟩ = some (.int .i64 p1) := n_w2.cell l0_w1; have l1_w2 : w2.cell? ⟨w.heap.size, 1, none⟩ = some (.int .i64 p2) := n_w2.cell l1_w1; have m0_w2 : w2.cell? ⟨w.heap.size + 1, 0, none⟩ = some (.int .i64 g1) := n_w2.cell m0_w1; have m1_w2 : w2.cell? ⟨w.heap.size + 1, 1, none⟩ = some (.int .i64 g2) := n_w2.cell m1_w1; have h0_w2 : w2.cell? ⟨w.heap.size + 1 + 1, 0, none⟩ = some (.int .i64 g1) := n_w2.cell h0_w1; have h1_w2 : w2.cell? ⟨w.heap.size + 1 + 1, 1, none⟩ = some (.int .i64 g2) := n_w2.cell h1_w1
              have N2 := Lib.hid (N1.out.trans n_w2)
              clear n_w2 l0_w1 l1_w1 m0_w1 m1_w1 h0_w1 h1_w1
              go_wp2_with fail
              refine (iIsRatio_any _ g1 g2).mono ?_
              rintro e w3 ⟨rfl, n_w3⟩
              rw [G3.out]
              have l0_w3 : w3.cell? ⟨w.heap.size, 0, none⟩ = some (.int .i64 p1) := n_w3.cell l0_w2; have l1_w3 : w3.cell? ⟨w.heap.size, 1, none⟩ = some (.int .i64 p2) := n_w3.cell l1_w2; have m0_w3 : w3.cell? ⟨w.heap.size + 1, 0, none⟩ = some (.int .i64 g1) := n_w3.cell m0_w2; have m1_w3 : w3.cell? ⟨w.heap.size + 1, 1, none⟩ = some (.int .i64 g2) := n_w3.cell m1_w2; have h0_w3 : w3.cell? ⟨w.heap.size + 1 + 1, 0, none⟩ = some (.int .i64 g1) := n_w3.cell h0_w2; have h1_w3 : w3.cell? ⟨w.heap.size + 1 + 1, 1, none⟩ = some (.int .i64 g2) := n_w3.cell h1_w2
              have N3 := Lib.hid (N2.out.trans n_w3)
              clear n_w3 l0_w2 l1_w2 m0_w2 m1_w2 h0_w2 h1_w2
              go_wp2
              refine bodyPost_ret (v := .tuple #[.int .i64 (0), .int .i64 (1), .bool true]) (by simp [results, Try.results12, go_sem]) rfl ⟨by rw [WM.out, WB.out], ?_⟩
              have := N3.out
              (repeat (first | with_reducible exact New.refl _ | with_reducible assumption | refine New.drewN ?_ _ | refine New.drew ?_ | refine New.alloc ?_ _ | refine New.setCell ?_ (by first | omega | (simp; omega) | (simp; done)) _ | (refine New.trans ?_ (by assumption))))
          · have M := bl_mid hp hq hg ep eq
            have U := bl_out ep eq
            have Ap := gap_pos hq hg eq
            have Cp := gap_pos hp hg ep
            obtain ⟨a1, a2⟩ := sg_mul2 hp hg
            obtain ⟨b1, b2⟩ := sg_mul2 hg hp
            obtain ⟨c1, c2⟩ := sg_mul2 hg hq
            obtain ⟨d1, d2⟩ := sg_mul2 hq hg
            have bp := (sgR_iff.1 hp).1; have bq := (sgR_iff.1 hq).1
            obtain ⟨bp1, bp2⟩ := bp; obtain ⟨bq1, bq2⟩ := bq
            have VA := Lib.hid (show (0 : Int) < 1 by omega)
            obtain ⟨A, hA⟩ : ∃ x, x = (q1 * g2 - g1 * q2).natAbs := ⟨_, rfl⟩
            obtain ⟨C, hC⟩ : ∃ x, x = (p1 * g2 - g1 * p2).natAbs := ⟨_, rfl⟩
            have HR := Lib.hid (show blR p1 p2 q1 q2 g1 g2 = red ((A : Int) * p2) ((C : Int) * q2) by unfold blR; rw [← hA, ← hC])
            rw [← hA] at Ap; rw [← hC] at Cp
            have Ab : A ≤ 4611686018427387904 := by omega
            have Cb : C ≤ 4611686018427387904 := by omega
            have EA := Lib.hid hA.symm; have EC := Lib.hid hC.symm; clear hA hC
            have G1a : ∃ m : Nat, p2 = (m : Int) := ⟨p2.toNat, by omega⟩
            have G1b : ∃ m : Nat, q2 = (m : Int) := ⟨q2.toNat, by omega⟩
            have U := Lib.hid U; have M := Lib.hid M
            clear hp hq hg VA
            by_cases e1 : g1 = p1
            · have e2 : ¬ g2 = p2 := fun h => ep ⟨e1, h⟩
              clear ep
              subst e1
              by_cases f1 : g1 = q1
              · have f2 : ¬ g2 = q2 := fun h => eq ⟨f1, h⟩
                clear eq
                subst f1
                by_cases hb : betB g1 p2 g1 q2 g1 g2 = true
                · skip
                  have WB := Lib.hid (M.out hb).1; have WM := Lib.hid (M.out hb).2
                  rw [HR.out] at WB WM
                  have HB := Lib.hid hb; clear hb U M
                  go_enter Try.func12, Try.ntmps12
                  go_upto_region 1 with fail
                  obtain ⟨v0, hv0⟩ : ∃ xx : World, xx = (((w.alloc (.cells #[.int .i64 g1, .int .i64 p2] 27)).alloc (.cells #[.int .i64 g1, .int .i64 q2] 27)).alloc (.cells #[.int .i64 g1, .int .i64 g2] 27)) := ⟨_, rfl⟩
                  rw [← hv0]
                  have l0_v0 : v0.cell? ⟨w.heap.size, 0, none⟩ = some (.int .i64 g1) := by rw [hv0]; simp [go_sem]
                  have l1_v0 : v0.cell? ⟨w.heap.size, 1, none⟩ = some (.int .i64 p2) := by rw [hv0]; simp [go_sem]
                  have m0_v0 : v0.cell? ⟨w.heap.size + 1, 0, none⟩ = some (.int .i64 g1) := by rw [hv0]; simp [go_sem]
                  have m1_v0 : v0.cell? ⟨w.heap.size + 1, 1, none⟩ = some (.int .i64 q2) := by rw [hv0]; simp [go_sem]
                  have h0_v0 : v0.cell? ⟨w.heap.size + 1 + 1, 0, none⟩ = some (.int .i64 g1) := by rw [hv0]; simp [go_sem]
                  have h1_v0 : v0.cell? ⟨w.heap.size + 1 + 1, 1, none⟩ = some (.int .i64 g2) := by rw [hv0]; simp [go_sem]
                  have N0 := Lib.hid (show New w v0 by rw [hv0]; exact (by repeat (first | with_reducible exact New.refl _ | with_reducible assumption | refine New.drewN ?_ _ | refine New.drew ?_ | refine New.alloc ?_ _ | refine New.setCell ?_ (by first | omega | (simp; omega) | (simp; done)) _ | (refine New.trans ?_ (by assumption)))))
                  have zv0 : w.heap.size + 1 + 1 < v0.heap.size := by rw [hv0]; simp
                  clear hv0
                  go_wp2_with fail
                  refine (iIsRatio_any _ g1 p2).mono ?_
                  rintro e w1 ⟨rfl, n_w1⟩
                  rw [G1.out]
                  have l0_w1 : w1.cell? ⟨w.heap.size, 0, none⟩ = some (.int .i64 g1) := n_w1.cell l0_v0; have l1_w1 : w1.cell? ⟨w.heap.size, 1, none⟩ = some (.int .i64 p2) := n_w1.cell l1_v0; have m0_w1 : w1.cell? ⟨w.heap.size + 1, 0, none⟩ = some (.int .i64 g1) := n_w1.cell m0_v0; have m1_w1 : w1.cell? ⟨w.heap.size + 1, 1, none⟩ = some (.int .i64 q2) := n_w1.cell m1_v0; have h0_w1 : w1.cell? ⟨w.heap.size + 1 + 1, 0, none⟩ = some (.int .i64 g1) := n_w1.cell h0_v0; have h1_w1 : w1.cell? ⟨w.heap.size + 1 + 1, 1, none⟩ = some (.int .i64 g2) := n_w1.cell h1_v0
                  have N1 := Lib.hid (N0.out.trans n_w1)
                  clear n_w1 l0_v0 l1_v0 m0_v0 m1_v0 h0_v0 h1_v0
                  go_wp2_with fail
                  refine (iIsRatio_any _ g1 q2).mono ?_
                  rintro e w2 ⟨rfl, n_w2⟩
                  rw [G2.out]
                  have l0_w2 : w2.cell? ⟨w.heap.size, 0, none⟩ = some (.int .i64 g1) := n_w2.cell l0_w1; have l1_w2 : w2.cell? ⟨w.heap.size, 1, none⟩ = some (.int .i64 p2) := n_w2.cell l1_w1; have m0_w2 : w2.cell? ⟨w.heap.size + 1, 0, none⟩ = some (.int .i64 g1) := n_w2.cell m0_w1; have m1_w2 : w2.cell? ⟨w.heap.size + 1, 1, none⟩ = some (.int .i64 q2) := n_w2.cell m1_w1; have h0_w2 : w2.cell? ⟨w.heap.size + 1 + 1, 0, none⟩ = some (.int .i64 g1) := n_w2.cell h0_w1; have h1_w2 : w2.cell? ⟨w.heap.size + 1 + 1, 1, none⟩ = some (.int .i64 g2) := n_w2.cell h1_w1
                  have N2 := Lib.hid (N1.out.trans n_w2)
                  clear n_w2 l0_w1 l1_w1 m0_w1 m1_w1 h0_w1 h1_w1
                  go_wp2_with fail
                  refine (iIsRatio_any _ g1 g2).mono ?_
                  rintro e w3 ⟨rfl, n_w3⟩
                  rw [G3.out]
                  have l0_w3 : w3.cell? ⟨w.heap.size, 0, none⟩ = some (.int .i64 g1) := n_w3.cell l0_w2; have l1_w3 : w3.cell? ⟨w.heap.size, 1, none⟩ = some (.int .i64 p2) := n_w3.cell l1_w2; have m0_w3 : w3.cell? ⟨w.heap.size + 1, 0, none⟩ = some (.int .i64 g1) := n_w3.cell m0_w2; have m1_w3 : w3.cell? ⟨w.heap.size + 1, 1, none⟩ = some (.int .i64 q2) := n_w3.cell m1_w2; have h0_w3 : w3.cell? ⟨w.heap.size + 1 + 1, 0, none⟩ = some (.int .i64 g1) := n_w3.cell h0_w2; have h1_w3 : w3.cell? ⟨w.heap.size + 1 + 1, 1, none⟩ = some (.int .i64 g2) := n_w3.cell h1_w2
                  have N3 := Lib.hid (N2.out.trans n_w3)
                  clear n_w3 l0_w2 l1_w2 m0_w2 m1_w2 h0_w2 h1_w2
                  go_upto_region 7 with fail
                  go_region_held3 (fun w' => w'.cell? ⟨w.heap.size, 0, none⟩ = some (.int .i64 g1) ∧ w'.cell? ⟨w.heap.size, 1, none⟩ = some (.int .i64 p2) ∧ w'.cell? ⟨w.heap.size + 1, 0, none⟩ = some (.int .i64 g1) ∧ w'.cell? ⟨w.heap.size + 1, 1, none⟩ = some (.int .i64 q2) ∧ w'.cell? ⟨w.heap.size + 1 + 1, 0, none⟩ = some (.int .i64 g1) ∧ w'.cell? ⟨w.heap.size + 1 + 1, 1, none⟩ = some (.int .i64 g2))
                    (first | with_reducible exact ⟨l0_w3, l1_w3, m0_w3, m1_w3, h0_w3, h1_w3⟩ | with_reducible exact ⟨l0_u1, l1_u1, m0_u1, m1_u1, h0_u1, h1_u1⟩ | with_reducible exact ⟨l0_u2, l1_u2, m0_u2, m1_u2, h0_u2, h1_u2⟩ | exact ⟨l0_w3, l1_w3, m0_w3, m1_w3, h0_w3, h1_w3⟩ | fail)
                    (first
                      | (go_at_call_of 27 (Value.agg #[.int .i64 g1, .int .i64 p2]); refine (isLess_any _ g1 p2 g1 g2 (by omega) (by omega) (by omega) (by omega)).mono ?_; rintro e u1 ⟨rfl, n_u1⟩; (try replace n_u1 := New.undrew n_u1); have l0_u1 : u1.cell? ⟨w.heap.size, 0, none⟩ = some (.int .i64 g1) := n_u1.cell l0_w3; have l1_u1 : u1.cell? ⟨w.heap.size, 1, none⟩ = some (.int .i64 p2) := n_u1.cell l1_w3; have m0_u1 : u1.cell? ⟨w.heap.size + 1, 0, none⟩ = some (.int .i64 g1) := n_u1.cell m0_w3; have m1_u1 : u1.cell? ⟨w.heap.size + 1, 1, none⟩ = some (.int .i64 q2) := n_u1.cell m1_w3; have h0_u1 : u1.cell? ⟨w.heap.size + 1 + 1, 0, none⟩ = some (.int .i64 g1) := n_u1.cell h0_w3; have h1_u1 : u1.cell? ⟨w.heap.size + 1 + 1, 1, none⟩ = some (.int .i64 g2) := n_u1.cell h1_w3;  skip)
                      | (go_at_call_of 27 (Value.agg #[.int .i64 g1, .int .i64 g2]); refine (isLess_any _ g1 g2 g1 q2 (by omega) (by omega) (by omega) (by omega)).mono ?_; rintro e u2 ⟨rfl, n_u2⟩; (try replace n_u2 := New.undrew n_u2); have l0_u2 : u2.cell? ⟨w.heap.size, 0, none⟩ = some (.int .i64 g1) := n_u2.cell l0_u1; have l1_u2 : u2.cell? ⟨w.heap.size, 1, none⟩ = some (.int .i64 p2) := n_u2.cell l1_u1; have m0_u2 : u2.cell? ⟨w.heap.size + 1, 0, none⟩ = some (.int .i64 g1) := n_u2.cell m0_u1; have m1_u2 : u2.cell? ⟨w.heap.size + 1, 1, none⟩ = some (.int .i64 q2) := n_u2.cell m1_u1; have h0_u2 : u2.cell? ⟨w.heap.size + 1 + 1, 0, none⟩ = some (.int .i64 g1) := n_u2.cell h0_u1; have h1_u2 : u2.cell? ⟨w.heap.size + 1 + 1, 1, none⟩ = some (.int .i64 g2) := n_u2.cell h1_u1;  skip))
                  have K_u1 := Lib.hid (show New w3 u1 from n_u1); clear n_u1
                  have K_u2 := Lib.hid (show New u1 u2 from n_u2); clear n_u2
                  have HX : decide (g1 * g2 < g1 * p2) = decide (g1 * q2 < g1 * g2) := beq_yes HB.out
                  rw [HX]
                  obtain ⟨bb, hbb⟩ : ∃ x, x = decide (g1 * q2 < g1 * g2) := ⟨_, rfl⟩
                  rw [← hbb]; clear hbb HX
                  obtain ⟨p2n, rfl⟩ := G1a
                  obtain ⟨q2n, rfl⟩ := G1b
                  cases bb
                  all_goals
                    go_upto_region 9 with fail
                    go_region_held3 (fun w' => w'.cell? ⟨w.heap.size, 0, none⟩ = some (.int .i64 g1) ∧ w'.cell? ⟨w.heap.size, 1, none⟩ = some (.int .i64 (p2n : Int)) ∧ w'.cell? ⟨w.heap.size + 1, 0, none⟩ = some (.int .i64 g1) ∧ w'.cell? ⟨w.heap.size + 1, 1, none⟩ = some (.int .i64 (q2n : Int)) ∧ w'.cell? ⟨w.heap.size + 1 + 1, 0, none⟩ = some (.int .i64 g1) ∧ w'.cell? ⟨w.heap.size + 1 + 1, 1, none⟩ = some (.int .i64 g2))
                      (first | with_reducible exact ⟨l0_u2, l1_u2, m0_u2, m1_u2, h0_u2, h1_u2⟩ | with_reducible exact ⟨l0_u3, l1_u3, m0_u3, m1_u3, h0_u3, h1_u3⟩ | with_reducible exact ⟨l0_u4, l1_u4, m0_u4, m1_u4, h0_u4, h1_u4⟩ | with_reducible exact ⟨l0_u5, l1_u5, m0_u5, m1_u5, h0_u5, h1_u5⟩ | exact ⟨l0_u2, l1_u2, m0_u2, m1_u2, h0_u2, h1_u2⟩ | fail)
                      (first
                        | (go_at_call_of 30 (Value.agg #[.int .i64 g1, .int .i64 (q2n : Int)]); refine (partsBetween_any _ g1 (q2n : Int) g1 g2 (by omega) (by omega) (by omega) (by omega)).mono ?_; rintro e u3 ⟨rfl, n_u3⟩; (try replace n_u3 := New.undrew n_u3); have l0_u3 : u3.cell? ⟨w.heap.size, 0, none⟩ = some (.int .i64 g1) := n_u3.cell l0_u2; have l1_u3 : u3.cell? ⟨w.heap.size, 1, none⟩ = some (.int .i64 (p2n : Int)) := n_u3.cell l1_u2; have m0_u3 : u3.cell? ⟨w.heap.size + 1, 0, none⟩ = some (.int .i64 g1) := n_u3.cell m0_u2; have m1_u3 : u3.cell? ⟨w.heap.size + 1, 1, none⟩ = some (.int .i64 (q2n : Int)) := n_u3.cell m1_u2; have h0_u3 : u3.cell? ⟨w.heap.size + 1 + 1, 0, none⟩ = some (.int .i64 g1) := n_u3.cell h0_u2; have h1_u3 : u3.cell? ⟨w.heap.size + 1 + 1, 1, none⟩ = some (.int .i64 g2) := n_u3.cell h1_u2; rw [EA.out]; skip)
                        | (go_at_call_of 30 (Value.agg #[.int .i64 g1, .int .i64 (p2n : Int)]); refine (partsBetween_any _ g1 (p2n : Int) g1 g2 (by omega) (by omega) (by omega) (by omega)).mono ?_; rintro e u4 ⟨rfl, n_u4⟩; (try replace n_u4 := New.undrew n_u4); have l0_u4 : u4.cell? ⟨w.heap.size, 0, none⟩ = some (.int .i64 g1) := n_u4.cell l0_u3; have l1_u4 : u4.cell? ⟨w.heap.size, 1, none⟩ = some (.int .i64 (p2n : Int)) := n_u4.cell l1_u3; have m0_u4 : u4.cell? ⟨w.heap.size + 1, 0, none⟩ = some (.int .i64 g1) := n_u4.cell m0_u3; have m1_u4 : u4.cell? ⟨w.heap.size + 1, 1, none⟩ = some (.int .i64 (q2n : Int)) := n_u4.cell m1_u3; have h0_u4 : u4.cell? ⟨w.heap.size + 1 + 1, 0, none⟩ = some (.int .i64 g1) := n_u4.cell h0_u3; have h1_u4 : u4.cell? ⟨w.heap.size + 1 + 1, 1, none⟩ = some (.int .i64 g2) := n_u4.cell h1_u3; rw [EC.out]; skip)
                        | (go_at_call 29; refine (leastAmounts_any _ A p2n C q2n Ap (by omega) Cp (by omega) Ab (by omega) Cb (by omega)).mono ?_; rintro e u5 ⟨rfl, n_u5⟩; (try replace n_u5 := New.undrew n_u5); have l0_u5 : u5.cell? ⟨w.heap.size, 0, none⟩ = some (.int .i64 g1) := n_u5.cell l0_u4; have l1_u5 : u5.cell? ⟨w.heap.size, 1, none⟩ = some (.int .i64 (p2n : Int)) := n_u5.cell l1_u4; have m0_u5 : u5.cell? ⟨w.heap.size + 1, 0, none⟩ = some (.int .i64 g1) := n_u5.cell m0_u4; have m1_u5 : u5.cell? ⟨w.heap.size + 1, 1, none⟩ = some (.int .i64 (q2n : Int)) := n_u5.cell m1_u4; have h0_u5 : u5.cell? ⟨w.heap.size + 1 + 1, 0, none⟩ = some (.int .i64 g1) := n_u5.cell h0_u4; have h1_u5 : u5.cell? ⟨w.heap.size + 1 + 1, 1, none⟩ = some (.int .i64 g2) := n_u5.cell h1_u4;  skip))
                    have K_u3 := Lib.hid (show New u2 u3 from n_u3); clear n_u3
                    have K_u4 := Lib.hid (show New u3 u4 from n_u4); clear n_u4
                    have K_u5 := Lib.hid (show New u4 u5 from n_u5); clear n_u5
                    obtain ⟨P, hP⟩ : ∃ x, x = red ((A : Int) * (p2n : Int)) ((C : Int) * (q2n : Int)) := ⟨_, rfl⟩
                    rw [← hP] at WB WM ⊢; clear hP
                    go_wp2
                    refine bodyPost_ret (v := .tuple #[.int .i64 ((capX P).1), .int .i64 ((capX P).2), .bool (capP P)]) (by simp [results, Try.results12, go_sem]) rfl ⟨by rw [WM.out, WB.out], ?_⟩
                    have := (((((N3.out.trans K_u1.out).trans K_u2.out).trans K_u3.out).trans K_u4.out).trans K_u5.out)
                    (repeat (first | with_reducible exact New.refl _ | with_reducible assumption | refine New.drewN ?_ _ | refine New.drew ?_ | refine New.alloc ?_ _ | refine New.setCell ?_ (by first | omega | (simp; omega) | (simp; done)) _ | (refine New.trans ?_ (by assumption))))
                · have hb := bool_no hb
                  have WB := Lib.hid (U.out hb).1; have WM := Lib.hid (U.out hb).2
                  have HB := Lib.hid hb; clear hb U M
                  go_enter Try.func12, Try.ntmps12
                  go_upto_region 1 with fail
                  obtain ⟨v0, hv0⟩ : ∃ xx : World, xx = (((w.alloc (.cells #[.int .i64 g1, .int .i64 p2] 27)).alloc (.cells #[.int .i64 g1, .int .i64 q2] 27)).alloc (.cells #[.int .i64 g1, .int .i64 g2] 27)) := ⟨_, rfl⟩
                  rw [← hv0]
                  have l0_v0 : v0.cell? ⟨w.heap.size, 0, none⟩ = some (.int .i64 g1) := by rw [hv0]; simp [go_sem]
                  have l1_v0 : v0.cell? ⟨w.heap.size, 1, none⟩ = some (.int .i64 p2) := by rw [hv0]; simp [go_sem]
                  have m0_v0 : v0.cell? ⟨w.heap.size + 1, 0, none⟩ = some (.int .i64 g1) := by rw [hv0]; simp [go_sem]
                  have m1_v0 : v0.cell? ⟨w.heap.size + 1, 1, none⟩ = some (.int .i64 q2) := by rw [hv0]; simp [go_sem]
                  have h0_v0 : v0.cell? ⟨w.heap.size + 1 + 1, 0, none⟩ = some (.int .i64 g1) := by rw [hv0]; simp [go_sem]
                  have h1_v0 : v0.cell? ⟨w.heap.size + 1 + 1, 1, none⟩ = some (.int .i64 g2) := by rw [hv0]; simp [go_sem]
                  have N0 := Lib.hid (show New w v0 by rw [hv0]; exact (by repeat (first | with_reducible exact New.refl _ | with_reducible assumption | refine New.drewN ?_ _ | refine New.drew ?_ | refine New.alloc ?_ _ | refine New.setCell ?_ (by first | omega | (simp; omega) | (simp; done)) _ | (refine New.trans ?_ (by assumption)))))
                  have zv0 : w.heap.size + 1 + 1 < v0.heap.size := by rw [hv0]; simp
                  clear hv0
                  go_wp2_with fail
                  refine (iIsRatio_any _ g1 p2).mono ?_
                  rintro e w1 ⟨rfl, n_w1⟩
                  rw [G1.out]
                  have l0_w1 : w1.cell? ⟨w.heap.size, 0, none⟩ = some (.int .i64 g1) := n_w1.cell l0_v0; have l1_w1 : w1.cell? ⟨w.heap.size, 1, none⟩ = some (.int .i64 p2) := n_w1.cell l1_v0; have m0_w1 : w1.cell? ⟨w.heap.size + 1, 0, none⟩ = some (.int .i64 g1) := n_w1.cell m0_v0; have m1_w1 : w1.cell? ⟨w.heap.size + 1, 1, none⟩ = some (.int .i64 q2) := n_w1.cell m1_v0; have h0_w1 : w1.cell? ⟨w.heap.size + 1 + 1, 0, none⟩ = some (.int .i64 g1) := n_w1.cell h0_v0; have h1_w1 : w1.cell? ⟨w.heap.size + 1 + 1, 1, none⟩ = some (.int .i64 g2) := n_w1.cell h1_v0
                  have N1 := Lib.hid (N0.out.trans n_w1)
                  clear n_w1 l0_v0 l1_v0 m0_v0 m1_v0 h0_v0 h1_v0
                  go_wp2_with fail
                  refine (iIsRatio_any _ g1 q2).mono ?_
                  rintro e w2 ⟨rfl, n_w2⟩
                  rw [G2.out]
                  have l0_w2 : w2.cell? ⟨w.heap.size, 0, none⟩ = some (.int .i64 g1) := n_w2.cell l0_w1; have l1_w2 : w2.cell? ⟨w.heap.size, 1, none⟩ = some (.int .i64 p2) := n_w2.cell l1_w1; have m0_w2 : w2.cell? ⟨w.heap.size + 1, 0, none⟩ = some (.int .i64 g1) := n_w2.cell m0_w1; have m1_w2 : w2.cell? ⟨w.heap.size + 1, 1, none⟩ = some (.int .i64 q2) := n_w2.cell m1_w1; have h0_w2 : w2.cell? ⟨w.heap.size + 1 + 1, 0, none⟩ = some (.int .i64 g1) := n_w2.cell h0_w1; have h1_w2 : w2.cell? ⟨w.heap.size + 1 + 1, 1, none⟩ = some (.int .i64 g2) := n_w2.cell h1_w1
                  have N2 := Lib.hid (N1.out.trans n_w2)
                  clear n_w2 l0_w1 l1_w1 m0_w1 m1_w1 h0_w1 h1_w1
                  go_wp2_with fail
                  refine (iIsRatio_any _ g1 g2).mono ?_
                  rintro e w3 ⟨rfl, n_w3⟩
                  rw [G3.out]
                  have l0_w3 : w3.cell? ⟨w.heap.size, 0, none⟩ = some (.int .i64 g1) := n_w3.cell l0_w2; have l1_w3 : w3.cell? ⟨w.heap.size, 1, none⟩ = some (.int .i64 p2) := n_w3.cell l1_w2; have m0_w3 : w3.cell? ⟨w.heap.size + 1, 0, none⟩ = some (.int .i64 g1) := n_w3.cell m0_w2; have m1_w3 : w3.cell? ⟨w.heap.size + 1, 1, none⟩ = some (.int .i64 q2) := n_w3.cell m1_w2; have h0_w3 : w3.cell? ⟨w.heap.size + 1 + 1, 0, none⟩ = some (.int .i64 g1) := n_w3.cell h0_w2; have h1_w3 : w3.cell? ⟨w.heap.size + 1 + 1, 1, none⟩ = some (.int .i64 g2) := n_w3.cell h1_w2
                  have N3 := Lib.hid (N2.out.trans n_w3)
                  clear n_w3 l0_w2 l1_w2 m0_w2 m1_w2 h0_w2 h1_w2
                  go_upto_region 7 with fail
                  go_region_held3 (fun w' => w'.cell? ⟨w.heap.size, 0, none⟩ = some (.int .i64 g1) ∧ w'.cell? ⟨w.heap.size, 1, none⟩ = some (.int .i64 p2) ∧ w'.cell? ⟨w.heap.size + 1, 0, none⟩ = some (.int .i64 g1) ∧ w'.cell? ⟨w.heap.size + 1, 1, none⟩ = some (.int .i64 q2) ∧ w'.cell? ⟨w.heap.size + 1 + 1, 0, none⟩ = some (.int .i64 g1) ∧ w'.cell? ⟨w.heap.size + 1 + 1, 1, none⟩ = some (.int .i64 g2))
                    (first | with_reducible exact ⟨l0_w3, l1_w3, m0_w3, m1_w3, h0_w3, h1_w3⟩ | with_reducible exact ⟨l0_u1, l1_u1, m0_u1, m1_u1, h0_u1, h1_u1⟩ | with_reducible exact ⟨l0_u2, l1_u2, m0_u2, m1_u2, h0_u2, h1_u2⟩ | exact ⟨l0_w3, l1_w3, m0_w3, m1_w3, h0_w3, h1_w3⟩ | fail)
                    (first
                      | (go_at_call_of 27 (Value.agg #[.int .i64 g1, .int .i64 p2]); refine (isLess_any _ g1 p2 g1 g2 (by omega) (by omega) (by omega) (by omega)).mono ?_; rintro e u1 ⟨rfl, n_u1⟩; (try replace n_u1 := New.undrew n_u1); have l0_u1 : u1.cell? ⟨w.heap.size, 0, none⟩ = some (.int .i64 g1) := n_u1.cell l0_w3; have l1_u1 : u1.cell? ⟨w.heap.size, 1, none⟩ = some (.int .i64 p2) := n_u1.cell l1_w3; have m0_u1 : u1.cell? ⟨w.heap.size + 1, 0, none⟩ = some (.int .i64 g1) := n_u1.cell m0_w3; have m1_u1 : u1.cell? ⟨w.heap.size + 1, 1, none⟩ = some (.int .i64 q2) := n_u1.cell m1_w3; have h0_u1 : u1.cell? ⟨w.heap.size + 1 + 1, 0, none⟩ = some (.int .i64 g1) := n_u1.cell h0_w3; have h1_u1 : u1.cell? ⟨w.heap.size + 1 + 1, 1, none⟩ = some (.int .i64 g2) := n_u1.cell h1_w3;  skip)
                      | (go_at_call_of 27 (Value.agg #[.int .i64 g1, .int .i64 g2]); refine (isLess_any _ g1 g2 g1 q2 (by omega) (by omega) (by omega) (by omega)).mono ?_; rintro e u2 ⟨rfl, n_u2⟩; (try replace n_u2 := New.undrew n_u2); have l0_u2 : u2.cell? ⟨w.heap.size, 0, none⟩ = some (.int .i64 g1) := n_u2.cell l0_u1; have l1_u2 : u2.cell? ⟨w.heap.size, 1, none⟩ = some (.int .i64 p2) := n_u2.cell l1_u1; have m0_u2 : u2.cell? ⟨w.heap.size + 1, 0, none⟩ = some (.int .i64 g1) := n_u2.cell m0_u1; have m1_u2 : u2.cell? ⟨w.heap.size + 1, 1, none⟩ = some (.int .i64 q2) := n_u2.cell m1_u1; have h0_u2 : u2.cell? ⟨w.heap.size + 1 + 1, 0, none⟩ = some (.int .i64 g1) := n_u2.cell h0_u1; have h1_u2 : u2.cell? ⟨w.heap.size + 1 + 1, 1, none⟩ = some (.int .i64 g2) := n_u2.cell h1_u1;  skip))
                  have K_u1 := Lib.hid (show New w3 u1 from n_u1); clear n_u1
                  have K_u2 := Lib.hid (show New u1 u2 from n_u2); clear n_u2
                  have HX : decide (g1 * g2 < g1 * p2) = !decide (g1 * q2 < g1 * g2) := beq_no HB.out
                  rw [HX]
                  obtain ⟨bb, hbb⟩ : ∃ x, x = decide (g1 * q2 < g1 * g2) := ⟨_, rfl⟩
                  rw [← hbb]; clear hbb HX
                  cases bb
                  all_goals
                    go_wp2
                    refine bodyPost_ret (v := .tuple #[.int .i64 (0), .int .i64 (0), .bool false]) (by simp [results, Try.results12, go_sem]) rfl ⟨by rw [WM.out, WB.out], ?_⟩
                    have := ((N3.out.trans K_u1.out).trans K_u2.out)
                    (repeat (first | with_reducible exact New.refl _ | with_reducible assumption | refine New.drewN ?_ _ | refine New.drew ?_ | refine New.alloc ?_ _ | refine New.setCell ?_ (by first | omega | (simp; omega) | (simp; done)) _ | (refine New.trans ?_ (by assumption))))
              · clear eq
                by_cases hb : betB g1 p2 q1 q2 g1 g2 = true
                · skip
                  have WB := Lib.hid (M.out hb).1; have WM := Lib.hid (M.out hb).2
                  rw [HR.out] at WB WM
                  have HB := Lib.hid hb; clear hb U M
                  go_enter Try.func12, Try.ntmps12
                  go_upto_region 1 with fail
                  obtain ⟨v0, hv0⟩ : ∃ xx : World, xx = (((w.alloc (.cells #[.int .i64 g1, .int .i64 p2] 27)).alloc (.cells #[.int .i64 q1, .int .i64 q2] 27)).alloc (.cells #[.int .i64 g1, .int .i64 g2] 27)) := ⟨_, rfl⟩
                  rw [← hv0]
                  have l0_v0 : v0.cell? ⟨w.heap.size, 0, none⟩ = some (.int .i64 g1) := by rw [hv0]; simp [go_sem]
                  have l1_v0 : v0.cell? ⟨w.heap.size, 1, none⟩ = some (.int .i64 p2) := by rw [hv0]; simp [go_sem]
                  have m0_v0 : v0.cell? ⟨w.heap.size + 1, 0, none⟩ = some (.int .i64 q1) := by rw [hv0]; simp [go_sem]
                  have m1_v0 : v0.cell? ⟨w.heap.size + 1, 1, none⟩ = some (.int .i64 q2) := by rw [hv0]; simp [go_sem]
                  have h0_v0 : v0.cell? ⟨w.heap.size + 1 + 1, 0, none⟩ = some (.int .i64 g1) := by rw [hv0]; simp [go_sem]
                  have h1_v0 : v0.cell? ⟨w.heap.size + 1 + 1, 1, none⟩ = some (.int .i64 g2) := by rw [hv0]; simp [go_sem]
                  have N0 := Lib.hid (show New w v0 by rw [hv0]; exact (by repeat (first | with_reducible exact New.refl _ | with_reducible assumption | refine New.drewN ?_ _ | refine New.drew ?_ | refine New.alloc ?_ _ | refine New.setCell ?_ (by first | omega | (simp; omega) | (simp; done)) _ | (refine New.trans ?_ (by assumption)))))
                  have zv0 : w.heap.size + 1 + 1 < v0.heap.size := by rw [hv0]; simp
                  clear hv0
                  go_wp2_with fail
                  refine (iIsRatio_any _ g1 p2).mono ?_
                  rintro e w1 ⟨rfl, n_w1⟩
                  rw [G1.out]
                  have l0_w1 : w1.cell? ⟨w.heap.size, 0, none⟩ = some (.int .i64 g1) := n_w1.cell l0_v0; have l1_w1 : w1.cell? ⟨w.heap.size, 1, none⟩ = some (.int .i64 p2) := n_w1.cell l1_v0; have m0_w1 : w1.cell? ⟨w.heap.size + 1, 0, none⟩ = some (.int .i64 q1) := n_w1.cell m0_v0; have m1_w1 : w1.cell? ⟨w.heap.size + 1, 1, none⟩ = some (.int .i64 q2) := n_w1.cell m1_v0; have h0_w1 : w1.cell? ⟨w.heap.size + 1 + 1, 0, none⟩ = some (.int .i64 g1) := n_w1.cell h0_v0; have h1_w1 : w1.cell? ⟨w.heap.size + 1 + 1, 1, none⟩ = some (.int .i64 g2) := n_w1.cell h1_v0
                  have N1 := Lib.hid (N0.out.trans n_w1)
                  clear n_w1 l0_v0 l1_v0 m0_v0 m1_v0 h0_v0 h1_v0
                  go_wp2_with fail
                  refine (iIsRatio_any _ q1 q2).mono ?_
                  rintro e w2 ⟨rfl, n_w2⟩
                  rw [G2.out]
                  have l0_w2 : w2.cell? ⟨w.heap.size, 0, none⟩ = some (.int .i64 g1) := n_w2.cell l0_w1; have l1_w2 : w2.cell? ⟨w.heap.size, 1, none⟩ = some (.int .i64 p2) := n_w2.cell l1_w1; have m0_w2 : w2.cell? ⟨w.heap.size + 1, 0, none⟩ = some (.int .i64 q1) := n_w2.cell m0_w1; have m1_w2 : w2.cell? ⟨w.heap.size + 1, 1, none⟩ = some (.int .i64 q2) := n_w2.cell m1_w1; have h0_w2 : w2.cell? ⟨w.heap.size + 1 + 1, 0, none⟩ = some (.int .i64 g1) := n_w2.cell h0_w1; have h1_w2 : w2.cell? ⟨w.heap.size + 1 + 1, 1, none⟩ = some (.int .i64 g2) := n_w2.cell h1_w1
                  have N2 := Lib.hid (N1.out.trans n_w2)
                  clear n_w2 l0_w1 l1_w1 m0_w1 m1_w1 h0_w1 h1_w1
                  go_wp2_with fail
                  refine (iIsRatio_any _ g1 g2).mono ?_
                  rintro e w3 ⟨rfl, n_w3⟩
                  rw [G3.out]
                  have l0_w3 : w3.cell? ⟨w.heap.size, 0, none⟩ = some (.int .i64 g1) := n_w3.cell l0_w2; have l1_w3 : w3.cell? ⟨w.heap.size, 1, none⟩ = some (.int .i64 p2) := n_w3.cell l1_w2; have m0_w3 : w3.cell? ⟨w.heap.size + 1, 0, none⟩ = some (.int .i64 q1) := n_w3.cell m0_w2; have m1_w3 : w3.cell? ⟨w.heap.size + 1, 1, none⟩ = some (.int .i64 q2) := n_w3.cell m1_w2; have h0_w3 : w3.cell? ⟨w.heap.size + 1 + 1, 0, none⟩ = some (.int .i64 g1) := n_w3.cell h0_w2; have h1_w3 : w3.cell? ⟨w.heap.size + 1 + 1, 1, none⟩ = some (.int .i64 g2) := n_w3.cell h1_w2
                  have N3 := Lib.hid (N2.out.trans n_w3)
                  clear n_w3 l0_w2 l1_w2 m0_w2 m1_w2 h0_w2 h1_w2
                  go_upto_region 7 with fail
                  go_region_held3 (fun w' => w'.cell? ⟨w.heap.size, 0, none⟩ = some (.int .i64 g1) ∧ w'.cell? ⟨w.heap.size, 1, none⟩ = some (.int .i64 p2) ∧ w'.cell? ⟨w.heap.size + 1, 0, none⟩ = some (.int .i64 q1) ∧ w'.cell? ⟨w.heap.size + 1, 1, none⟩ = some (.int .i64 q2) ∧ w'.cell? ⟨w.heap.size + 1 + 1, 0, none⟩ = some (.int .i64 g1) ∧ w'.cell? ⟨w.heap.size + 1 + 1, 1, none⟩ = some (.int .i64 g2))
                    (first | with_reducible exact ⟨l0_w3, l1_w3, m0_w3, m1_w3, h0_w3, h1_w3⟩ | with_reducible exact ⟨l0_u1, l1_u1, m0_u1, m1_u1, h0_u1, h1_u1⟩ | with_reducible exact ⟨l0_u2, l1_u2, m0_u2, m1_u2, h0_u2, h1_u2⟩ | exact ⟨l0_w3, l1_w3, m0_w3, m1_w3, h0_w3, h1_w3⟩ | fail)
                    (first
                      | (go_at_call_of 27 (Value.agg #[.int .i64 g1, .int .i64 p2]); refine (isLess_any _ g1 p2 g1 g2 (by omega) (by omega) (by omega) (by omega)).mono ?_; rintro e u1 ⟨rfl, n_u1⟩; (try replace n_u1 := New.undrew n_u1); have l0_u1 : u1.cell? ⟨w.heap.size, 0, none⟩ = some (.int .i64 g1) := n_u1.cell l0_w3; have l1_u1 : u1.cell? ⟨w.heap.size, 1, none⟩ = some (.int .i64 p2) := n_u1.cell l1_w3; have m0_u1 : u1.cell? ⟨w.heap.size + 1, 0, none⟩ = some (.int .i64 q1) := n_u1.cell m0_w3; have m1_u1 : u1.cell? ⟨w.heap.size + 1, 1, none⟩ = some (.int .i64 q2) := n_u1.cell m1_w3; have h0_u1 : u1.cell? ⟨w.heap.size + 1 + 1, 0, none⟩ = some (.int .i64 g1) := n_u1.cell h0_w3; have h1_u1 : u1.cell? ⟨w.heap.size + 1 + 1, 1, none⟩ = some (.int .i64 g2) := n_u1.cell h1_w3;  skip)
                      | (go_at_call_of 27 (Value.agg #[.int .i64 g1, .int .i64 g2]); refine (isLess_any _ g1 g2 q1 q2 (by omega) (by omega) (by omega) (by omega)).mono ?_; rintro e u2 ⟨rfl, n_u2⟩; (try replace n_u2 := New.undrew n_u2); have l0_u2 : u2.cell? ⟨w.heap.size, 0, none⟩ = some (.int .i64 g1) := n_u2.cell l0_u1; have l1_u2 : u2.cell? ⟨w.heap.size, 1, none⟩ = some (.int .i64 p2) := n_u2.cell l1_u1; have m0_u2 : u2.cell? ⟨w.heap.size + 1, 0, none⟩ = some (.int .i64 q1) := n_u2.cell m0_u1; have m1_u2 : u2.cell? ⟨w.heap.size + 1, 1, none⟩ = some (.int .i64 q2) := n_u2.cell m1_u1; have h0_u2 : u2.cell? ⟨w.heap.size + 1 + 1, 0, none⟩ = some (.int .i64 g1) := n_u2.cell h0_u1; have h1_u2 : u2.cell? ⟨w.heap.size + 1 + 1, 1, none⟩ = some (.int .i64 g2) := n_u2.cell h1_u1;  skip))
                  have K_u1 := Lib.hid (show New w3 u1 from n_u1); clear n_u1
                  have K_u2 := Lib.hid (show New u1 u2 from n_u2); clear n_u2
                  have HX : decide (g1 * g2 < g1 * p2) = decide (g1 * q2 < q1 * g2) := beq_yes HB.out
                  rw [HX]
                  obtain ⟨bb, hbb⟩ : ∃ x, x = decide (g1 * q2 < q1 * g2) := ⟨_, rfl⟩
                  rw [← hbb]; clear hbb HX
                  obtain ⟨p2n, rfl⟩ := G1a
                  obtain ⟨q2n, rfl⟩ := G1b
                  cases bb
                  all_goals
                    go_upto_region 9 with fail
                    go_region_held3 (fun w' => w'.cell? ⟨w.heap.size, 0, none⟩ = some (.int .i64 g1) ∧ w'.cell? ⟨w.heap.size, 1, none⟩ = some (.int .i64 (p2n : Int)) ∧ w'.cell? ⟨w.heap.size + 1, 0, none⟩ = some (.int .i64 q1) ∧ w'.cell? ⟨w.heap.size + 1, 1, none⟩ = some (.int .i64 (q2n : Int)) ∧ w'.cell? ⟨w.heap.size + 1 + 1, 0, none⟩ = some (.int .i64 g1) ∧ w'.cell? ⟨w.heap.size + 1 + 1, 1, none⟩ = some (.int .i64 g2))
                      (first | with_reducible exact ⟨l0_u2, l1_u2, m0_u2, m1_u2, h0_u2, h1_u2⟩ | with_reducible exact ⟨l0_u3, l1_u3, m0_u3, m1_u3, h0_u3, h1_u3⟩ | with_reducible exact ⟨l0_u4, l1_u4, m0_u4, m1_u4, h0_u4, h1_u4⟩ | with_reducible exact ⟨l0_u5, l1_u5, m0_u5, m1_u5, h0_u5, h1_u5⟩ | exact ⟨l0_u2, l1_u2, m0_u2, m1_u2, h0_u2, h1_u2⟩ | fail)
                      (first
                        | (go_at_call_of 30 (Value.agg #[.int .i64 q1, .int .i64 (q2n : Int)]); refine (partsBetween_any _ q1 (q2n : Int) g1 g2 (by omega) (by omega) (by omega) (by omega)).mono ?_; rintro e u3 ⟨rfl, n_u3⟩; (try replace n_u3 := New.undrew n_u3); have l0_u3 : u3.cell? ⟨w.heap.size, 0, none⟩ = some (.int .i64 g1) := n_u3.cell l0_u2; have l1_u3 : u3.cell? ⟨w.heap.size, 1, none⟩ = some (.int .i64 (p2n : Int)) := n_u3.cell l1_u2; have m0_u3 : u3.cell? ⟨w.heap.size + 1, 0, none⟩ = some (.int .i64 q1) := n_u3.cell m0_u2; have m1_u3 : u3.cell? ⟨w.heap.size + 1, 1, none⟩ = some (.int .i64 (q2n : Int)) := n_u3.cell m1_u2; have h0_u3 : u3.cell? ⟨w.heap.size + 1 + 1, 0, none⟩ = some (.int .i64 g1) := n_u3.cell h0_u2; have h1_u3 : u3.cell? ⟨w.heap.size + 1 + 1, 1, none⟩ = some (.int .i64 g2) := n_u3.cell h1_u2; rw [EA.out]; skip)
                        | (go_at_call_of 30 (Value.agg #[.int .i64 g1, .int .i64 (p2n : Int)]); refine (partsBetween_any _ g1 (p2n : Int) g1 g2 (by omega) (by omega) (by omega) (by omega)).mono ?_; rintro e u4 ⟨rfl, n_u4⟩; (try replace n_u4 := New.undrew n_u4); have l0_u4 : u4.cell? ⟨w.heap.size, 0, none⟩ = some (.int .i64 g1) := n_u4.cell l0_u3; have l1_u4 : u4.cell? ⟨w.heap.size, 1, none⟩ = some (.int .i64 (p2n : Int)) := n_u4.cell l1_u3; have m0_u4 : u4.cell? ⟨w.heap.size + 1, 0, none⟩ = some (.int .i64 q1) := n_u4.cell m0_u3; have m1_u4 : u4.cell? ⟨w.heap.size + 1, 1, none⟩ = some (.int .i64 (q2n : Int)) := n_u4.cell m1_u3; have h0_u4 : u4.cell? ⟨w.heap.size + 1 + 1, 0, none⟩ = some (.int .i64 g1) := n_u4.cell h0_u3; have h1_u4 : u4.cell? ⟨w.heap.size + 1 + 1, 1, none⟩ = some (.int .i64 g2) := n_u4.cell h1_u3; rw [EC.out]; skip)
                        | (go_at_call 29; refine (leastAmounts_any _ A p2n C q2n Ap (by omega) Cp (by omega) Ab (by omega) Cb (by omega)).mono ?_; rintro e u5 ⟨rfl, n_u5⟩; (try replace n_u5 := New.undrew n_u5); have l0_u5 : u5.cell? ⟨w.heap.size, 0, none⟩ = some (.int .i64 g1) := n_u5.cell l0_u4; have l1_u5 : u5.cell? ⟨w.heap.size, 1, none⟩ = some (.int .i64 (p2n : Int)) := n_u5.cell l1_u4; have m0_u5 : u5.cell? ⟨w.heap.size + 1, 0, none⟩ = some (.int .i64 q1) := n_u5.cell m0_u4; have m1_u5 : u5.cell? ⟨w.heap.size + 1, 1, none⟩ = some (.int .i64 (q2n : Int)) := n_u5.cell m1_u4; have h0_u5 : u5.cell? ⟨w.heap.size + 1 + 1, 0, none⟩ = some (.int .i64 g1) := n_u5.cell h0_u4; have h1_u5 : u5.cell? ⟨w.heap.size + 1 + 1, 1, none⟩ = some (.int .i64 g2) := n_u5.cell h1_u4;  skip))
                    have K_u3 := Lib.hid (show New u2 u3 from n_u3); clear n_u3
                    have K_u4 := Lib.hid (show New u3 u4 from n_u4); clear n_u4
                    have K_u5 := Lib.hid (show New u4 u5 from n_u5); clear n_u5
                    obtain ⟨P, hP⟩ : ∃ x, x = red ((A : Int) * (p2n : Int)) ((C : Int) * (q2n : Int)) := ⟨_, rfl⟩
                    rw [← hP] at WB WM ⊢; clear hP
                    go_wp2
                    refine bodyPost_ret (v := .tuple #[.int .i64 ((capX P).1), .int .i64 ((capX P).2), .bool (capP P)]) (by simp [results, Try.results12, go_sem]) rfl ⟨by rw [WM.out, WB.out], ?_⟩
                    have := (((((N3.out.trans K_u1.out).trans K_u2.out).trans K_u3.out).trans K_u4.out).trans K_u5.out)
                    (repeat (first | with_reducible exact New.refl _ | with_reducible assumption | refine New.drewN ?_ _ | refine New.drew ?_ | refine New.alloc ?_ _ | refine New.setCell ?_ (by first | omega | (simp; omega) | (simp; done)) _ | (refine New.trans ?_ (by assumption))))
                · have hb := bool_no hb
                  have WB := Lib.hid (U.out hb).1; have WM := Lib.hid (U.out hb).2
                  have HB := Lib.hid hb; clear hb U M
                  go_enter Try.func12, Try.ntmps12
                  go_upto_region 1 with fail
                  obtain ⟨v0, hv0⟩ : ∃ xx : World, xx = (((w.alloc (.cells #[.int .i64 g1, .int .i64 p2] 27)).alloc (.cells #[.int .i64 q1, .int .i64 q2] 27)).alloc (.cells #[.int .i64 g1, .int .i64 g2] 27)) := ⟨_, rfl⟩
                  rw [← hv0]
                  have l0_v0 : v0.cell? ⟨w.heap.size, 0, none⟩ = some (.int .i64 g1) := by rw [hv0]; simp [go_sem]
                  have l1_v0 : v0.cell? ⟨w.heap.size, 1, none⟩ = some (.int .i64 p2) := by rw [hv0]; simp [go_sem]
                  have m0_v0 : v0.cell? ⟨w.heap.size + 1, 0, none⟩ = some (.int .i64 q1) := by rw [hv0]; simp [go_sem]
                  have m1_v0 : v0.cell? ⟨w.heap.size + 1, 1, none⟩ = some (.int .i64 q2) := by rw [hv0]; simp [go_sem]
                  have h0_v0 : v0.cell? ⟨w.heap.size + 1 + 1, 0, none⟩ = some (.int .i64 g1) := by rw [hv0]; simp [go_sem]
                  have h1_v0 : v0.cell? ⟨w.heap.size + 1 + 1, 1, none⟩ = some (.int .i64 g2) := by rw [hv0]; simp [go_sem]
                  have N0 := Lib.hid (show New w v0 by rw [hv0]; exact (by repeat (first | with_reducible exact New.refl _ | with_reducible assumption | refine New.drewN ?_ _ | refine New.drew ?_ | refine New.alloc ?_ _ | refine New.setCell ?_ (by first | omega | (simp; omega) | (simp; done)) _ | (refine New.trans ?_ (by assumption)))))
                  have zv0 : w.heap.size + 1 + 1 < v0.heap.size := by rw [hv0]; simp
                  clear hv0
                  go_wp2_with fail
                  refine (iIsRatio_any _ g1 p2).mono ?_
                  rintro e w1 ⟨rfl, n_w1⟩
                  rw [G1.out]
                  have l0_w1 : w1.cell? ⟨w.heap.size, 0, none⟩ = some (.int .i64 g1) := n_w1.cell l0_v0; have l1_w1 : w1.cell? ⟨w.heap.size, 1, none⟩ = some (.int .i64 p2) := n_w1.cell l1_v0; have m0_w1 : w1.cell? ⟨w.heap.size + 1, 0, none⟩ = some (.int .i64 q1) := n_w1.cell m0_v0; have m1_w1 : w1.cell? ⟨w.heap.size + 1, 1, none⟩ = some (.int .i64 q2) := n_w1.cell m1_v0; have h0_w1 : w1.cell? ⟨w.heap.size + 1 + 1, 0, none⟩ = some (.int .i64 g1) := n_w1.cell h0_v0; have h1_w1 : w1.cell? ⟨w.heap.size + 1 + 1, 1, none⟩ = some (.int .i64 g2) := n_w1.cell h1_v0
                  have N1 := Lib.hid (N0.out.trans n_w1)
                  clear n_w1 l0_v0 l1_v0 m0_v0 m1_v0 h0_v0 h1_v0
                  go_wp2_with fail
                  refine (iIsRatio_any _ q1 q2).mono ?_
                  rintro e w2 ⟨rfl, n_w2⟩
                  rw [G2.out]
                  have l0_w2 : w2.cell? ⟨w.heap.size, 0, none⟩ = some (.int .i64 g1) := n_w2.cell l0_w1; have l1_w2 : w2.cell? ⟨w.heap.size, 1, none⟩ = some (.int .i64 p2) := n_w2.cell l1_w1; have m0_w2 : w2.cell? ⟨w.heap.size + 1, 0, none⟩ = some (.int .i64 q1) := n_w2.cell m0_w1; have m1_w2 : w2.cell? ⟨w.heap.size + 1, 1, none⟩ = some (.int .i64 q2) := n_w2.cell m1_w1; have h0_w2 : w2.cell? ⟨w.heap.size + 1 + 1, 0, none⟩ = some (.int .i64 g1) := n_w2.cell h0_w1; have h1_w2 : w2.cell? ⟨w.heap.size + 1 + 1, 1, none⟩ = some (.int .i64 g2) := n_w2.cell h1_w1
                  have N2 := Lib.hid (N1.out.trans n_w2)
                  clear n_w2 l0_w1 l1_w1 m0_w1 m1_w1 h0_w1 h1_w1
                  go_wp2_with fail
                  refine (iIsRatio_any _ g1 g2).mono ?_
                  rintro e w3 ⟨rfl, n_w3⟩
                  rw [G3.out]
                  have l0_w3 : w3.cell? ⟨w.heap.size, 0, none⟩ = some (.int .i64 g1) := n_w3.cell l0_w2; have l1_w3 : w3.cell? ⟨w.heap.size, 1, none⟩ = some (.int .i64 p2) := n_w3.cell l1_w2; have m0_w3 : w3.cell? ⟨w.heap.size + 1, 0, none⟩ = some (.int .i64 q1) := n_w3.cell m0_w2; have m1_w3 : w3.cell? ⟨w.heap.size + 1, 1, none⟩ = some (.int .i64 q2) := n_w3.cell m1_w2; have h0_w3 : w3.cell? ⟨w.heap.size + 1 + 1, 0, none⟩ = some (.int .i64 g1) := n_w3.cell h0_w2; have h1_w3 : w3.cell? ⟨w.heap.size + 1 + 1, 1, none⟩ = some (.int .i64 g2) := n_w3.cell h1_w2
                  have N3 := Lib.hid (N2.out.trans n_w3)
                  clear n_w3 l0_w2 l1_w2 m0_w2 m1_w2 h0_w2 h1_w2
                  go_upto_region 7 with fail
                  go_region_held3 (fun w' => w'.cell? ⟨w.heap.size, 0, none⟩ = some (.int .i64 g1) ∧ w'.cell? ⟨w.heap.size, 1, none⟩ = some (.int .i64 p2) ∧ w'.cell? ⟨w.heap.size + 1, 0, none⟩ = some (.int .i64 q1) ∧ w'.cell? ⟨w.heap.size + 1, 1, none⟩ = some (.int .i64 q2) ∧ w'.cell? ⟨w.heap.size + 1 + 1, 0, none⟩ = some (.int .i64 g1) ∧ w'.cell? ⟨w.heap.size + 1 + 1, 1, none⟩ = some (.int .i64 g2))
                    (first | with_reducible exact ⟨l0_w3, l1_w3, m0_w3, m1_w3, h0_w3, h1_w3⟩ | with_reducible exact ⟨l0_u1, l1_u1, m0_u1, m1_u1, h0_u1, h1_u1⟩ | with_reducible exact ⟨l0_u2, l1_u2, m0_u2, m1_u2, h0_u2, h1_u2⟩ | exact ⟨l0_w3, l1_w3, m0_w3, m1_w3, h0_w3, h1_w3⟩ | fail)
                    (first
                      | (go_at_call_of 27 (Value.agg #[.int .i64 g1, .int .i64 p2]); refine (isLess_any _ g1 p2 g1 g2 (by omega) (by omega) (by omega) (by omega)).mono ?_; rintro e u1 ⟨rfl, n_u1⟩; (try replace n_u1 := New.undrew n_u1); have l0_u1 : u1.cell? ⟨w.heap.size, 0, none⟩ = some (.int .i64 g1) := n_u1.cell l0_w3; have l1_u1 : u1.cell? ⟨w.heap.size, 1, none⟩ = some (.int .i64 p2) := n_u1.cell l1_w3; have m0_u1 : u1.cell? ⟨w.heap.size + 1, 0, none⟩ = some (.int .i64 q1) := n_u1.cell m0_w3; have m1_u1 : u1.cell? ⟨w.heap.size + 1, 1, none⟩ = some (.int .i64 q2) := n_u1.cell m1_w3; have h0_u1 : u1.cell? ⟨w.heap.size + 1 + 1, 0, none⟩ = some (.int .i64 g1) := n_u1.cell h0_w3; have h1_u1 : u1.cell? ⟨w.heap.size + 1 + 1, 1, none⟩ = some (.int .i64 g2) := n_u1.cell h1_w3;  skip)
                      | (go_at_call_of 27 (Value.agg #[.int .i64 g1, .int .i64 g2]); refine (isLess_any _ g1 g2 q1 q2 (by omega) (by omega) (by omega) (by omega)).mono ?_; rintro e u2 ⟨rfl, n_u2⟩; (try replace n_u2 := New.undrew n_u2); have l0_u2 : u2.cell? ⟨w.heap.size, 0, none⟩ = some (.int .i64 g1) := n_u2.cell l0_u1; have l1_u2 : u2.cell? ⟨w.heap.size, 1, none⟩ = some (.int .i64 p2) := n_u2.cell l1_u1; have m0_u2 : u2.cell? ⟨w.heap.size + 1, 0, none⟩ = some (.int .i64 q1) := n_u2.cell m0_u1; have m1_u2 : u2.cell? ⟨w.heap.size + 1, 1, none⟩ = some (.int .i64 q2) := n_u2.cell m1_u1; have h0_u2 : u2.cell? ⟨w.heap.size + 1 + 1, 0, none⟩ = some (.int .i64 g1) := n_u2.cell h0_u1; have h1_u2 : u2.cell? ⟨w.heap.size + 1 + 1, 1, none⟩ = some (.int .i64 g2) := n_u2.cell h1_u1;  skip))
                  have K_u1 := Lib.hid (show New w3 u1 from n_u1); clear n_u1
                  have K_u2 := Lib.hid (show New u1 u2 from n_u2); clear n_u2
                  have HX : decide (g1 * g2 < g1 * p2) = !decide (g1 * q2 < q1 * g2) := beq_no HB.out
                  rw [HX]
                  obtain ⟨bb, hbb⟩ : ∃ x, x = decide (g1 * q2 < q1 * g2) := ⟨_, rfl⟩
                  rw [← hbb]; clear hbb HX
                  cases bb
                  all_goals
                    go_wp2
                    refine bodyPost_ret (v := .tuple #[.int .i64 (0), .int .i64 (0), .bool false]) (by simp [results, Try.results12, go_sem]) rfl ⟨by rw [WM.out, WB.out], ?_⟩
                    have := ((N3.out.trans K_u1.out).trans K_u2.out)
                    (repeat (first | with_reducible exact New.refl _ | with_reducible assumption | refine New.drewN ?_ _ | refine New.drew ?_ | refine New.alloc ?_ _ | refine New.setCell ?_ (by first | omega | (simp; omega) | (simp; done)) _ | (refine New.trans ?_ (by assumption))))
            · clear ep
              by_cases f1 : g1 = q1
              · have f2 : ¬ g2 = q2 := fun h => eq ⟨f1, h⟩
                clear eq
                subst f1
                by_cases hb : betB p1 p2 g1 q2 g1 g2 = true
                · skip
                  have WB := Lib.hid (M.out hb).1; have WM := Lib.hid (M.out hb).2
                  rw [HR.out] at WB WM
                  have HB := Lib.hid hb; clear hb U M
                  go_enter Try.func12, Try.ntmps12
                  go_upto_region 1 with fail
                  obtain ⟨v0, hv0⟩ : ∃ xx : World, xx = (((w.alloc (.cells #[.int .i64 p1, .int .i64 p2] 27)).alloc (.cells #[.int .i64 g1, .int .i64 q2] 27)).alloc (.cells #[.int .i64 g1, .int .i64 g2] 27)) := ⟨_, rfl⟩
                  rw [← hv0]
                  have l0_v0 : v0.cell? ⟨w.heap.size, 0, none⟩ = some (.int .i64 p1) := by rw [hv0]; simp [go_sem]
                  have l1_v0 : v0.cell? ⟨w.heap.size, 1, none⟩ = some (.int .i64 p2) := by rw [hv0]; simp [go_sem]
                  have m0_v0 : v0.cell? ⟨w.heap.size + 1, 0, none⟩ = some (.int .i64 g1) := by rw [hv0]; simp [go_sem]
                  have m1_v0 : v0.cell? ⟨w.heap.size + 1, 1, none⟩ = some (.int .i64 q2) := by rw [hv0]; simp [go_sem]
                  have h0_v0 : v0.cell? ⟨w.heap.size + 1 + 1, 0, none⟩ = some (.int .i64 g1) := by rw [hv0]; simp [go_sem]
                  have h1_v0 : v0.cell? ⟨w.heap.size + 1 + 1, 1, none⟩ = some (.int .i64 g2) := by rw [hv0]; simp [go_sem]
                  have N0 := Lib.hid (show New w v0 by rw [hv0]; exact (by repeat (first | with_reducible exact New.refl _ | with_reducible assumption | refine New.drewN ?_ _ | refine New.drew ?_ | refine New.alloc ?_ _ | refine New.setCell ?_ (by first | omega | (simp; omega) | (simp; done)) _ | (refine New.trans ?_ (by assumption)))))
                  have zv0 : w.heap.size + 1 + 1 < v0.heap.size := by rw [hv0]; simp
                  clear hv0
                  go_wp2_with fail
                  refine (iIsRatio_any _ p1 p2).mono ?_
                  rintro e w1 ⟨rfl, n_w1⟩
                  rw [G1.out]
                  have l0_w1 : w1.cell? ⟨w.heap.size, 0, none⟩ = some (.int .i64 p1) := n_w1.cell l0_v0; have l1_w1 : w1.cell? ⟨w.heap.size, 1, none⟩ = some (.int .i64 p2) := n_w1.cell l1_v0; have m0_w1 : w1.cell? ⟨w.heap.size + 1, 0, none⟩ = some (.int .i64 g1) := n_w1.cell m0_v0; have m1_w1 : w1.cell? ⟨w.heap.size + 1, 1, none⟩ = some (.int .i64 q2) := n_w1.cell m1_v0; have h0_w1 : w1.cell? ⟨w.heap.size + 1 + 1, 0, none⟩ = some (.int .i64 g1) := n_w1.cell h0_v0; have h1_w1 : w1.cell? ⟨w.heap.size + 1 + 1, 1, none⟩ = some (.int .i64 g2) := n_w1.cell h1_v0
                  have N1 := Lib.hid (N0.out.trans n_w1)
                  clear n_w1 l0_v0 l1_v0 m0_v0 m1_v0 h0_v0 h1_v0
                  go_wp2_with fail
                  refine (iIsRatio_any _ g1 q2).mono ?_
                  rintro e w2 ⟨rfl, n_w2⟩
                  rw [G2.out]
                  have l0_w2 : w2.cell? ⟨w.heap.size, 0, none⟩ = some (.int .i64 p1) := n_w2.cell l0_w1; have l1_w2 : w2.cell? ⟨w.heap.size, 1, none⟩ = some (.int .i64 p2) := n_w2.cell l1_w1; have m0_w2 : w2.cell? ⟨w.heap.size + 1, 0, none⟩ = some (.int .i64 g1) := n_w2.cell m0_w1; have m1_w2 : w2.cell? ⟨w.heap.size + 1, 1, none⟩ = some (.int .i64 q2) := n_w2.cell m1_w1; have h0_w2 : w2.cell? ⟨w.heap.size + 1 + 1, 0, none⟩ = some (.int .i64 g1) := n_w2.cell h0_w1; have h1_w2 : w2.cell? ⟨w.heap.size + 1 + 1, 1, none⟩ = some (.int .i64 g2) := n_w2.cell h1_w1
                  have N2 := Lib.hid (N1.out.trans n_w2)
                  clear n_w2 l0_w1 l1_w1 m0_w1 m1_w1 h0_w1 h1_w1
                  go_wp2_with fail
                  refine (iIsRatio_any _ g1 g2).mono ?_
                  rintro e w3 ⟨rfl, n_w3⟩
                  rw [G3.out]
                  have l0_w3 : w3.cell? ⟨w.heap.size, 0, none⟩ = some (.int .i64 p1) := n_w3.cell l0_w2; have l1_w3 : w3.cell? ⟨w.heap.size, 1, none⟩ = some (.int .i64 p2) := n_w3.cell l1_w2; have m0_w3 : w3.cell? ⟨w.heap.size + 1, 0, none⟩ = some (.int .i64 g1) := n_w3.cell m0_w2; have m1_w3 : w3.cell? ⟨w.heap.size + 1, 1, none⟩ = some (.int .i64 q2) := n_w3.cell m1_w2; have h0_w3 : w3.cell? ⟨w.heap.size + 1 + 1, 0, none⟩ = some (.int .i64 g1) := n_w3.cell h0_w2; have h1_w3 : w3.cell? ⟨w.heap.size + 1 + 1, 1, none⟩ = some (.int .i64 g2) := n_w3.cell h1_w2
                  have N3 := Lib.hid (N2.out.trans n_w3)
                  clear n_w3 l0_w2 l1_w2 m0_w2 m1_w2 h0_w2 h1_w2
                  go_upto_region 7 with fail
                  go_region_held3 (fun w' => w'.cell? ⟨w.heap.size, 0, none⟩ = some (.int .i64 p1) ∧ w'.cell? ⟨w.heap.size, 1, none⟩ = some (.int .i64 p2) ∧ w'.cell? ⟨w.heap.size + 1, 0, none⟩ = some (.int .i64 g1) ∧ w'.cell? ⟨w.heap.size + 1, 1, none⟩ = some (.int .i64 q2) ∧ w'.cell? ⟨w.heap.size + 1 + 1, 0, none⟩ = some (.int .i64 g1) ∧ w'.cell? ⟨w.heap.size + 1 + 1, 1, none⟩ = some (.int .i64 g2))
                    (first | with_reducible exact ⟨l0_w3, l1_w3, m0_w3, m1_w3, h0_w3, h1_w3⟩ | with_reducible exact ⟨l0_u1, l1_u1, m0_u1, m1_u1, h0_u1, h1_u1⟩ | with_reducible exact ⟨l0_u2, l1_u2, m0_u2, m1_u2, h0_u2, h1_u2⟩ | exact ⟨l0_w3, l1_w3, m0_w3, m1_w3, h0_w3, h1_w3⟩ | fail)
                    (first
                      | (go_at_call_of 27 (Value.agg #[.int .i64 p1, .int .i64 p2]); refine (isLess_any _ p1 p2 g1 g2 (by omega) (by omega) (by omega) (by omega)).mono ?_; rintro e u1 ⟨rfl, n_u1⟩; (try replace n_u1 := New.undrew n_u1); have l0_u1 : u1.cell? ⟨w.heap.size, 0, none⟩ = some (.int .i64 p1) := n_u1.cell l0_w3; have l1_u1 : u1.cell? ⟨w.heap.size, 1, none⟩ = some (.int .i64 p2) := n_u1.cell l1_w3; have m0_u1 : u1.cell? ⟨w.heap.size + 1, 0, none⟩ = some (.int .i64 g1) := n_u1.cell m0_w3; have m1_u1 : u1.cell? ⟨w.heap.size + 1, 1, none⟩ = some (.int .i64 q2) := n_u1.cell m1_w3; have h0_u1 : u1.cell? ⟨w.heap.size + 1 + 1, 0, none⟩ = some (.int .i64 g1) := n_u1.cell h0_w3; have h1_u1 : u1.cell? ⟨w.heap.size + 1 + 1, 1, none⟩ = some (.int .i64 g2) := n_u1.cell h1_w3;  skip)
                      | (go_at_call_of 27 (Value.agg #[.int .i64 g1, .int .i64 g2]); refine (isLess_any _ g1 g2 g1 q2 (by omega) (by omega) (by omega) (by omega)).mono ?_; rintro e u2 ⟨rfl, n_u2⟩; (try replace n_u2 := New.undrew n_u2); have l0_u2 : u2.cell? ⟨w.heap.size, 0, none⟩ = some (.int .i64 p1) := n_u2.cell l0_u1; have l1_u2 : u2.cell? ⟨w.heap.size, 1, none⟩ = some (.int .i64 p2) := n_u2.cell l1_u1; have m0_u2 : u2.cell? ⟨w.heap.size + 1, 0, none⟩ = some (.int .i64 g1) := n_u2.cell m0_u1; have m1_u2 : u2.cell? ⟨w.heap.size + 1, 1, none⟩ = some (.int .i64 q2) := n_u2.cell m1_u1; have h0_u2 : u2.cell? ⟨w.heap.size + 1 + 1, 0, none⟩ = some (.int .i64 g1) := n_u2.cell h0_u1; have h1_u2 : u2.cell? ⟨w.heap.size + 1 + 1, 1, none⟩ = some (.int .i64 g2) := n_u2.cell h1_u1;  skip))
                  have K_u1 := Lib.hid (show New w3 u1 from n_u1); clear n_u1
                  have K_u2 := Lib.hid (show New u1 u2 from n_u2); clear n_u2
                  have HX : decide (p1 * g2 < g1 * p2) = decide (g1 * q2 < g1 * g2) := beq_yes HB.out
                  rw [HX]
                  obtain ⟨bb, hbb⟩ : ∃ x, x = decide (g1 * q2 < g1 * g2) := ⟨_, rfl⟩
                  rw [← hbb]; clear hbb HX
                  obtain ⟨p2n, rfl⟩ := G1a
                  obtain ⟨q2n, rfl⟩ := G1b
                  cases bb
                  all_goals
                    go_upto_region 9 with fail
                    go_region_held3 (fun w' => w'.cell? ⟨w.heap.size, 0, none⟩ = some (.int .i64 p1) ∧ w'.cell? ⟨w.heap.size, 1, none⟩ = some (.int .i64 (p2n : Int)) ∧ w'.cell? ⟨w.heap.size + 1, 0, none⟩ = some (.int .i64 g1) ∧ w'.cell? ⟨w.heap.size + 1, 1, none⟩ = some (.int .i64 (q2n : Int)) ∧ w'.cell? ⟨w.heap.size + 1 + 1, 0, none⟩ = some (.int .i64 g1) ∧ w'.cell? ⟨w.heap.size + 1 + 1, 1, none⟩ = some (.int .i64 g2))
                      (first | with_reducible exact ⟨l0_u2, l1_u2, m0_u2, m1_u2, h0_u2, h1_u2⟩ | with_reducible exact ⟨l0_u3, l1_u3, m0_u3, m1_u3, h0_u3, h1_u3⟩ | with_reducible exact ⟨l0_u4, l1_u4, m0_u4, m1_u4, h0_u4, h1_u4⟩ | with_reducible exact ⟨l0_u5, l1_u5, m0_u5, m1_u5, h0_u5, h1_u5⟩ | exact ⟨l0_u2, l1_u2, m0_u2, m1_u2, h0_u2, h1_u2⟩ | fail)
                      (first
                        | (go_at_call_of 30 (Value.agg #[.int .i64 g1, .int .i64 (q2n : Int)]); refine (partsBetween_any _ g1 (q2n : Int) g1 g2 (by omega) (by omega) (by omega) (by omega)).mono ?_; rintro e u3 ⟨rfl, n_u3⟩; (try replace n_u3 := New.undrew n_u3); have l0_u3 : u3.cell? ⟨w.heap.size, 0, none⟩ = some (.int .i64 p1) := n_u3.cell l0_u2; have l1_u3 : u3.cell? ⟨w.heap.size, 1, none⟩ = some (.int .i64 (p2n : Int)) := n_u3.cell l1_u2; have m0_u3 : u3.cell? ⟨w.heap.size + 1, 0, none⟩ = some (.int .i64 g1) := n_u3.cell m0_u2; have m1_u3 : u3.cell? ⟨w.heap.size + 1, 1, none⟩ = some (.int .i64 (q2n : Int)) := n_u3.cell m1_u2; have h0_u3 : u3.cell? ⟨w.heap.size + 1 + 1, 0, none⟩ = some (.int .i64 g1) := n_u3.cell h0_u2; have h1_u3 : u3.cell? ⟨w.heap.size + 1 + 1, 1, none⟩ = some (.int .i64 g2) := n_u3.cell h1_u2; rw [EA.out]; skip)
                        | (go_at_call_of 30 (Value.agg #[.int .i64 p1, .int .i64 (p2n : Int)]); refine (partsBetween_any _ p1 (p2n : Int) g1 g2 (by omega) (by omega) (by omega) (by omega)).mono ?_; rintro e u4 ⟨rfl, n_u4⟩; (try replace n_u4 := New.undrew n_u4); have l0_u4 : u4.cell? ⟨w.heap.size, 0, none⟩ = some (.int .i64 p1) := n_u4.cell l0_u3; have l1_u4 : u4.cell? ⟨w.heap.size, 1, none⟩ = some (.int .i64 (p2n : Int)) := n_u4.cell l1_u3; have m0_u4 : u4.cell? ⟨w.heap.size + 1, 0, none⟩ = some (.int .i64 g1) := n_u4.cell m0_u3; have m1_u4 : u4.cell? ⟨w.heap.size + 1, 1, none⟩ = some (.int .i64 (q2n : Int)) := n_u4.cell m1_u3; have h0_u4 : u4.cell? ⟨w.heap.size + 1 + 1, 0, none⟩ = some (.int .i64 g1) := n_u4.cell h0_u3; have h1_u4 : u4.cell? ⟨w.heap.size + 1 + 1, 1, none⟩ = some (.int .i64 g2) := n_u4.cell h1_u3; rw [EC.out]; skip)
                        | (go_at_call 29; refine (leastAmounts_any _ A p2n C q2n Ap (by omega) Cp (by omega) Ab (by omega) Cb (by omega)).mono ?_; rintro e u5 ⟨rfl, n_u5⟩; (try replace n_u5 := New.undrew n_u5); have l0_u5 : u5.cell? ⟨w.heap.size, 0, none⟩ = some (.int .i64 p1) := n_u5.cell l0_u4; have l1_u5 : u5.cell? ⟨w.heap.size, 1, none⟩ = some (.int .i64 (p2n : Int)) := n_u5.cell l1_u4; have m0_u5 : u5.cell? ⟨w.heap.size + 1, 0, none⟩ = some (.int .i64 g1) := n_u5.cell m0_u4; have m1_u5 : u5.cell? ⟨w.heap.size + 1, 1, none⟩ = some (.int .i64 (q2n : Int)) := n_u5.cell m1_u4; have h0_u5 : u5.cell? ⟨w.heap.size + 1 + 1, 0, none⟩ = some (.int .i64 g1) := n_u5.cell h0_u4; have h1_u5 : u5.cell? ⟨w.heap.size + 1 + 1, 1, none⟩ = some (.int .i64 g2) := n_u5.cell h1_u4;  skip))
                    have K_u3 := Lib.hid (show New u2 u3 from n_u3); clear n_u3
                    have K_u4 := Lib.hid (show New u3 u4 from n_u4); clear n_u4
                    have K_u5 := Lib.hid (show New u4 u5 from n_u5); clear n_u5
                    obtain ⟨P, hP⟩ : ∃ x, x = red ((A : Int) * (p2n : Int)) ((C : Int) * (q2n : Int)) := ⟨_, rfl⟩
                    rw [← hP] at WB WM ⊢; clear hP
                    go_wp2
                    refine bodyPost_ret (v := .tuple #[.int .i64 ((capX P).1), .int .i64 ((capX P).2), .bool (capP P)]) (by simp [results, Try.results12, go_sem]) rfl ⟨by rw [WM.out, WB.out], ?_⟩
                    have := (((((N3.out.trans K_u1.out).trans K_u2.out).trans K_u3.out).trans K_u4.out).trans K_u5.out)
                    (repeat (first | with_reducible exact New.refl _ | with_reducible assumption | refine New.drewN ?_ _ | refine New.drew ?_ | refine New.alloc ?_ _ | refine New.setCell ?_ (by first | omega | (simp; omega) | (simp; done)) _ | (refine New.trans ?_ (by assumption))))
                · have hb := bool_no hb
                  have WB := Lib.hid (U.out hb).1; have WM := Lib.hid (U.out hb).2
                  have HB := Lib.hid hb; clear hb U M
                  go_enter Try.func12, Try.ntmps12
                  go_upto_region 1 with fail
                  obtain ⟨v0, hv0⟩ : ∃ xx : World, xx = (((w.alloc (.cells #[.int .i64 p1, .int .i64 p2] 27)).alloc (.cells #[.int .i64 g1, .int .i64 q2] 27)).alloc (.cells #[.int .i64 g1, .int .i64 g2] 27)) := ⟨_, rfl⟩
                  rw [← hv0]
                  have l0_v0 : v0.cell? ⟨w.heap.size, 0, none⟩ = some (.int .i64 p1) := by rw [hv0]; simp [go_sem]
                  have l1_v0 : v0.cell? ⟨w.heap.size, 1, none⟩ = some (.int .i64 p2) := by rw [hv0]; simp [go_sem]
                  have m0_v0 : v0.cell? ⟨w.heap.size + 1, 0, none⟩ = some (.int .i64 g1) := by rw [hv0]; simp [go_sem]
                  have m1_v0 : v0.cell? ⟨w.heap.size + 1, 1, none⟩ = some (.int .i64 q2) := by rw [hv0]; simp [go_sem]
                  have h0_v0 : v0.cell? ⟨w.heap.size + 1 + 1, 0, none⟩ = some (.int .i64 g1) := by rw [hv0]; simp [go_sem]
                  have h1_v0 : v0.cell? ⟨w.heap.size + 1 + 1, 1, none⟩ = some (.int .i64 g2) := by rw [hv0]; simp [go_sem]
                  have N0 := Lib.hid (show New w v0 by rw [hv0]; exact (by repeat (first | with_reducible exact New.refl _ | with_reducible assumption | refine New.drewN ?_ _ | refine New.drew ?_ | refine New.alloc ?_ _ | refine New.setCell ?_ (by first | omega | (simp; omega) | (simp; done)) _ | (refine New.trans ?_ (by assumption)))))
                  have zv0 : w.heap.size + 1 + 1 < v0.heap.size := by rw [hv0]; simp
                  clear hv0
                  go_wp2_with fail
                  refine (iIsRatio_any _ p1 p2).mono ?_
                  rintro e w1 ⟨rfl, n_w1⟩
                  rw [G1.out]
                  have l0_w1 : w1.cell? ⟨w.heap.size, 0, none⟩ = some (.int .i64 p1) := n_w1.cell l0_v0; have l1_w1 : w1.cell? ⟨w.heap.size, 1, none⟩ = some (.int .i64 p2) := n_w1.cell l1_v0; have m0_w1 : w1.cell? ⟨w.heap.size + 1, 0, none⟩ = some (.int .i64 g1) := n_w1.cell m0_v0; have m1_w1 : w1.cell? ⟨w.heap.size + 1, 1, none⟩ = some (.int .i64 q2) := n_w1.cell m1_v0; have h0_w1 : w1.cell? ⟨w.heap.size + 1 + 1, 0, none⟩ = some (.int .i64 g1) := n_w1.cell h0_v0; have h1_w1 : w1.cell? ⟨w.heap.size + 1 + 1, 1, none⟩ = some (.int .i64 g2) := n_w1.cell h1_v0
                  have N1 := Lib.hid (N0.out.trans n_w1)
                  clear n_w1 l0_v0 l1_v0 m0_v0 m1_v0 h0_v0 h1_v0
                  go_wp2_with fail
                  refine (iIsRatio_any _ g1 q2).mono ?_
                  rintro e w2 ⟨rfl, n_w2⟩
                  rw [G2.out]
                  have l0_w2 : w2.cell? ⟨w.heap.size, 0, none⟩ = some (.int .i64 p1) := n_w2.cell l0_w1; have l1_w2 : w2.cell? ⟨w.heap.size, 1, none⟩ = some (.int .i64 p2) := n_w2.cell l1_w1; have m0_w2 : w2.cell? ⟨w.heap.size + 1, 0, none⟩ = some (.int .i64 g1) := n_w2.cell m0_w1; have m1_w2 : w2.cell? ⟨w.heap.size + 1, 1, none⟩ = some (.int .i64 q2) := n_w2.cell m1_w1; have h0_w2 : w2.cell? ⟨w.heap.size + 1 + 1, 0, none⟩ = some (.int .i64 g1) := n_w2.cell h0_w1; have h1_w2 : w2.cell? ⟨w.heap.size + 1 + 1, 1, none⟩ = some (.int .i64 g2) := n_w2.cell h1_w1
                  have N2 := Lib.hid (N1.out.trans n_w2)
                  clear n_w2 l0_w1 l1_w1 m0_w1 m1_w1 h0_w1 h1_w1
                  go_wp2_with fail
                  refine (iIsRatio_any _ g1 g2).mono ?_
                  rintro e w3 ⟨rfl, n_w3⟩
                  rw [G3.out]
                  have l0_w3 : w3.cell? ⟨w.heap.size, 0, none⟩ = some (.int .i64 p1) := n_w3.cell l0_w2; have l1_w3 : w3.cell? ⟨w.heap.size, 1, none⟩ = some (.int .i64 p2) := n_w3.cell l1_w2; have m0_w3 : w3.cell? ⟨w.heap.size + 1, 0, none⟩ = some (.int .i64 g1) := n_w3.cell m0_w2; have m1_w3 : w3.cell? ⟨w.heap.size + 1, 1, none⟩ = some (.int .i64 q2) := n_w3.cell m1_w2; have h0_w3 : w3.cell? ⟨w.heap.size + 1 + 1, 0, none⟩ = some (.int .i64 g1) := n_w3.cell h0_w2; have h1_w3 : w3.cell? ⟨w.heap.size + 1 + 1, 1, none⟩ = some (.int .i64 g2) := n_w3.cell h1_w2
                  have N3 := Lib.hid (N2.out.trans n_w3)
                  clear n_w3 l0_w2 l1_w2 m0_w2 m1_w2 h0_w2 h1_w2
                  go_upto_region 7 with fail
                  go_region_held3 (fun w' => w'.cell? ⟨w.heap.size, 0, none⟩ = some (.int .i64 p1) ∧ w'.cell? ⟨w.heap.size, 1, none⟩ = some (.int .i64 p2) ∧ w'.cell? ⟨w.heap.size + 1, 0, none⟩ = some (.int .i64 g1) ∧ w'.cell? ⟨w.heap.size + 1, 1, none⟩ = some (.int .i64 q2) ∧ w'.cell? ⟨w.heap.size + 1 + 1, 0, none⟩ = some (.int .i64 g1) ∧ w'.cell? ⟨w.heap.size + 1 + 1, 1, none⟩ = some (.int .i64 g2))
                    (first | with_reducible exact ⟨l0_w3, l1_w3, m0_w3, m1_w3, h0_w3, h1_w3⟩ | with_reducible exact ⟨l0_u1, l1_u1, m0_u1, m1_u1, h0_u1, h1_u1⟩ | with_reducible exact ⟨l0_u2, l1_u2, m0_u2, m1_u2, h0_u2, h1_u2⟩ | exact ⟨l0_w3, l1_w3, m0_w3, m1_w3, h0_w3, h1_w3⟩ | fail)
                    (first
                      | (go_at_call_of 27 (Value.agg #[.int .i64 p1, .int .i64 p2]); refine (isLess_any _ p1 p2 g1 g2 (by omega) (by omega) (by omega) (by omega)).mono ?_; rintro e u1 ⟨rfl, n_u1⟩; (try replace n_u1 := New.undrew n_u1); have l0_u1 : u1.cell? ⟨w.heap.size, 0, none⟩ = some (.int .i64 p1) := n_u1.cell l0_w3; have l1_u1 : u1.cell? ⟨w.heap.size, 1, none⟩ = some (.int .i64 p2) := n_u1.cell l1_w3; have m0_u1 : u1.cell? ⟨w.heap.size + 1, 0, none⟩ = some (.int .i64 g1) := n_u1.cell m0_w3; have m1_u1 : u1.cell? ⟨w.heap.size + 1, 1, none⟩ = some (.int .i64 q2) := n_u1.cell m1_w3; have h0_u1 : u1.cell? ⟨w.heap.size + 1 + 1, 0, none⟩ = some (.int .i64 g1) := n_u1.cell h0_w3; have h1_u1 : u1.cell? ⟨w.heap.size + 1 + 1, 1, none⟩ = some (.int .i64 g2) := n_u1.cell h1_w3;  skip)
                      | (go_at_call_of 27 (Value.agg #[.int .i64 g1, .int .i64 g2]); refine (isLess_any _ g1 g2 g1 q2 (by omega) (by omega) (by omega) (by omega)).mono ?_; rintro e u2 ⟨rfl, n_u2⟩; (try replace n_u2 := New.undrew n_u2); have l0_u2 : u2.cell? ⟨w.heap.size, 0, none⟩ = some (.int .i64 p1) := n_u2.cell l0_u1; have l1_u2 : u2.cell? ⟨w.heap.size, 1, none⟩ = some (.int .i64 p2) := n_u2.cell l1_u1; have m0_u2 : u2.cell? ⟨w.heap.size + 1, 0, none⟩ = some (.int .i64 g1) := n_u2.cell m0_u1; have m1_u2 : u2.cell? ⟨w.heap.size + 1, 1, none⟩ = some (.int .i64 q2) := n_u2.cell m1_u1; have h0_u2 : u2.cell? ⟨w.heap.size + 1 + 1, 0, none⟩ = some (.int .i64 g1) := n_u2.cell h0_u1; have h1_u2 : u2.cell? ⟨w.heap.size + 1 + 1, 1, none⟩ = some (.int .i64 g2) := n_u2.cell h1_u1;  skip))
                  have K_u1 := Lib.hid (show New w3 u1 from n_u1); clear n_u1
                  have K_u2 := Lib.hid (show New u1 u2 from n_u2); clear n_u2
                  have HX : decide (p1 * g2 < g1 * p2) = !decide (g1 * q2 < g1 * g2) := beq_no HB.out
                  rw [HX]
                  obtain ⟨bb, hbb⟩ : ∃ x, x = decide (g1 * q2 < g1 * g2) := ⟨_, rfl⟩
                  rw [← hbb]; clear hbb HX
                  cases bb
                  all_goals
                    go_wp2
                    refine bodyPost_ret (v := .tuple #[.int .i64 (0), .int .i64 (0), .bool false]) (by simp [results, Try.results12, go_sem]) rfl ⟨by rw [WM.out, WB.out], ?_⟩
                    have := ((N3.out.trans K_u1.out).trans K_u2.out)
                    (repeat (first | with_reducible exact New.refl _ | with_reducible assumption | refine New.drewN ?_ _ | refine New.drew ?_ | refine New.alloc ?_ _ | refine New.setCell ?_ (by first | omega | (simp; omega) | (simp; done)) _ | (refine New.trans ?_ (by assumption))))
              · clear eq
                by_cases hb : betB p1 p2 q1 q2 g1 g2 = true
                · skip
                  have WB := Lib.hid (M.out hb).1; have WM := Lib.hid (M.out hb).2
                  rw [HR.out] at WB WM
                  have HB := Lib.hid hb; clear hb U M
                  go_enter Try.func12, Try.ntmps12
                  go_upto_region 1 with fail
                  obtain ⟨v0, hv0⟩ : ∃ xx : World, xx = (((w.alloc (.cells #[.int .i64 p1, .int .i64 p2] 27)).alloc (.cells #[.int .i64 q1, .int .i64 q2] 27)).alloc (.cells #[.int .i64 g1, .int .i64 g2] 27)) := ⟨_, rfl⟩
                  rw [← hv0]
                  have l0_v0 : v0.cell? ⟨w.heap.size, 0, none⟩ = some (.int .i64 p1) := by rw [hv0]; simp [go_sem]
                  have l1_v0 : v0.cell? ⟨w.heap.size, 1, none⟩ = some (.int .i64 p2) := by rw [hv0]; simp [go_sem]
                  have m0_v0 : v0.cell? ⟨w.heap.size + 1, 0, none⟩ = some (.int .i64 q1) := by rw [hv0]; simp [go_sem]
                  have m1_v0 : v0.cell? ⟨w.heap.size + 1, 1, none⟩ = some (.int .i64 q2) := by rw [hv0]; simp [go_sem]
                  have h0_v0 : v0.cell? ⟨w.heap.size + 1 + 1, 0, none⟩ = some (.int .i64 g1) := by rw [hv0]; simp [go_sem]
                  have h1_v0 : v0.cell? ⟨w.heap.size + 1 + 1, 1, none⟩ = some (.int .i64 g2) := by rw [hv0]; simp [go_sem]
                  have N0 := Lib.hid (show New w v0 by rw [hv0]; exact (by repeat (first | with_reducible exact New.refl _ | with_reducible assumption | refine New.drewN ?_ _ | refine New.drew ?_ | refine New.alloc ?_ _ | refine New.setCell ?_ (by first | omega | (simp; omega) | (simp; done)) _ | (refine New.trans ?_ (by assumption)))))
                  have zv0 : w.heap.size + 1 + 1 < v0.heap.size := by rw [hv0]; simp
                  clear hv0
                  go_wp2_with fail
                  refine (iIsRatio_any _ p1 p2).mono ?_
                  rintro e w1 ⟨rfl, n_w1⟩
                  rw [G1.out]
                  have l0_w1 : w1.cell? ⟨w.heap.size, 0, none⟩ = some (.int .i64 p1) := n_w1.cell l0_v0; have l1_w1 : w1.cell? ⟨w.heap.size, 1, none⟩ = some (.int .i64 p2) := n_w1.cell l1_v0; have m0_w1 : w1.cell? ⟨w.heap.size + 1, 0, none⟩ = some (.int .i64 q1) := n_w1.cell m0_v0; have m1_w1 : w1.cell? ⟨w.heap.size + 1, 1, none⟩ = some (.int .i64 q2) := n_w1.cell m1_v0; have h0_w1 : w1.cell? ⟨w.heap.size + 1 + 1, 0, none⟩ = some (.int .i64 g1) := n_w1.cell h0_v0; have h1_w1 : w1.cell? ⟨w.heap.size + 1 + 1, 1, none⟩ = some (.int .i64 g2) := n_w1.cell h1_v0
                  have N1 := Lib.hid (N0.out.trans n_w1)
                  clear n_w1 l0_v0 l1_v0 m0_v0 m1_v0 h0_v0 h1_v0
                  go_wp2_with fail
                  refine (iIsRatio_any _ q1 q2).mono ?_
                  rintro e w2 ⟨rfl, n_w2⟩
                  rw [G2.out]
                  have l0_w2 : w2.cell? ⟨w.heap.size, 0, none⟩ = some (.int .i64 p1) := n_w2.cell l0_w1; have l1_w2 : w2.cell? ⟨w.heap.size, 1, none⟩ = some (.int .i64 p2) := n_w2.cell l1_w1; have m0_w2 : w2.cell? ⟨w.heap.size + 1, 0, none⟩ = some (.int .i64 q1) := n_w2.cell m0_w1; have m1_w2 : w2.cell? ⟨w.heap.size + 1, 1, none⟩ = some (.int .i64 q2) := n_w2.cell m1_w1; have h0_w2 : w2.cell? ⟨w.heap.size + 1 + 1, 0, none⟩ = some (.int .i64 g1) := n_w2.cell h0_w1; have h1_w2 : w2.cell? ⟨w.heap.size + 1 + 1, 1, none⟩ = some (.int .i64 g2) := n_w2.cell h1_w1
                  have N2 := Lib.hid (N1.out.trans n_w2)
                  clear n_w2 l0_w1 l1_w1 m0_w1 m1_w1 h0_w1 h1_w1
                  go_wp2_with fail
                  refine (iIsRatio_any _ g1 g2).mono ?_
                  rintro e w3 ⟨rfl, n_w3⟩
                  rw [G3.out]
                  have l0_w3 : w3.cell? ⟨w.heap.size, 0, none⟩ = some (.int .i64 p1) := n_w3.cell l0_w2; have l1_w3 : w3.cell? ⟨w.heap.size, 1, none⟩ = some (.int .i64 p2) := n_w3.cell l1_w2; have m0_w3 : w3.cell? ⟨w.heap.size + 1, 0, none⟩ = some (.int .i64 q1) := n_w3.cell m0_w2; have m1_w3 : w3.cell? ⟨w.heap.size + 1, 1, none⟩ = some (.int .i64 q2) := n_w3.cell m1_w2; have h0_w3 : w3.cell? ⟨w.heap.size + 1 + 1, 0, none⟩ = some (.int .i64 g1) := n_w3.cell h0_w2; have h1_w3 : w3.cell? ⟨w.heap.size + 1 + 1, 1, none⟩ = some (.int .i64 g2) := n_w3.cell h1_w2
                  have N3 := Lib.hid (N2.out.trans n_w3)
                  clear n_w3 l0_w2 l1_w2 m0_w2 m1_w2 h0_w2 h1_w2
                  go_upto_region 7 with fail
                  go_region_held3 (fun w' => w'.cell? ⟨w.heap.size, 0, none⟩ = some (.int .i64 p1) ∧ w'.cell? ⟨w.heap.size, 1, none⟩ = some (.int .i64 p2) ∧ w'.cell? ⟨w.heap.size + 1, 0, none⟩ = some (.int .i64 q1) ∧ w'.cell? ⟨w.heap.size + 1, 1, none⟩ = some (.int .i64 q2) ∧ w'.cell? ⟨w.heap.size + 1 + 1, 0, none⟩ = some (.int .i64 g1) ∧ w'.cell? ⟨w.heap.size + 1 + 1, 1, none⟩ = some (.int .i64 g2))
                    (first | with_reducible exact ⟨l0_w3, l1_w3, m0_w3, m1_w3, h0_w3, h1_w3⟩ | with_reducible exact ⟨l0_u1, l1_u1, m0_u1, m1_u1, h0_u1, h1_u1⟩ | with_reducible exact ⟨l0_u2, l1_u2, m0_u2, m1_u2, h0_u2, h1_u2⟩ | exact ⟨l0_w3, l1_w3, m0_w3, m1_w3, h0_w3, h1_w3⟩ | fail)
                    (first
                      | (go_at_call_of 27 (Value.agg #[.int .i64 p1, .int .i64 p2]); refine (isLess_any _ p1 p2 g1 g2 (by omega) (by omega) (by omega) (by omega)).mono ?_; rintro e u1 ⟨rfl, n_u1⟩; (try replace n_u1 := New.undrew n_u1); have l0_u1 : u1.cell? ⟨w.heap.size, 0, none⟩ = some (.int .i64 p1) := n_u1.cell l0_w3; have l1_u1 : u1.cell? ⟨w.heap.size, 1, none⟩ = some (.int .i64 p2) := n_u1.cell l1_w3; have m0_u1 : u1.cell? ⟨w.heap.size + 1, 0, none⟩ = some (.int .i64 q1) := n_u1.cell m0_w3; have m1_u1 : u1.cell? ⟨w.heap.size + 1, 1, none⟩ = some (.int .i64 q2) := n_u1.cell m1_w3; have h0_u1 : u1.cell? ⟨w.heap.size + 1 + 1, 0, none⟩ = some (.int .i64 g1) := n_u1.cell h0_w3; have h1_u1 : u1.cell? ⟨w.heap.size + 1 + 1, 1, none⟩ = some (.int .i64 g2) := n_u1.cell h1_w3;  skip)
                      | (go_at_call_of 27 (Value.agg #[.int .i64 g1, .int .i64 g2]); refine (isLess_any _ g1 g2 q1 q2 (by omega) (by omega) (by omega) (by omega)).mono ?_; rintro e u2 ⟨rfl, n_u2⟩; (try replace n_u2 := New.undrew n_u2); have l0_u2 : u2.cell? ⟨w.heap.size, 0, none⟩ = some (.int .i64 p1) := n_u2.cell l0_u1; have l1_u2 : u2.cell? ⟨w.heap.size, 1, none⟩ = some (.int .i64 p2) := n_u2.cell l1_u1; have m0_u2 : u2.cell? ⟨w.heap.size + 1, 0, none⟩ = some (.int .i64 q1) := n_u2.cell m0_u1; have m1_u2 : u2.cell? ⟨w.heap.size + 1, 1, none⟩ = some (.int .i64 q2) := n_u2.cell m1_u1; have h0_u2 : u2.cell? ⟨w.heap.size + 1 + 1, 0, none⟩ = some (.int .i64 g1) := n_u2.cell h0_u1; have h1_u2 : u2.cell? ⟨w.heap.size + 1 + 1, 1, none⟩ = some (.int .i64 g2) := n_u2.cell h1_u1;  skip))
                  have K_u1 := Lib.hid (show New w3 u1 from n_u1); clear n_u1
                  have K_u2 := Lib.hid (show New u1 u2 from n_u2); clear n_u2
                  have HX : decide (p1 * g2 < g1 * p2) = decide (g1 * q2 < q1 * g2) := beq_yes HB.out
                  rw [HX]
                  obtain ⟨bb, hbb⟩ : ∃ x, x = decide (g1 * q2 < q1 * g2) := ⟨_, rfl⟩
                  rw [← hbb]; clear hbb HX
                  obtain ⟨p2n, rfl⟩ := G1a
                  obtain ⟨q2n, rfl⟩ := G1b
                  cases bb
                  all_goals
                    go_upto_region 9 with fail
                    go_region_held3 (fun w' => w'.cell? ⟨w.heap.size, 0, none⟩ = some (.int .i64 p1) ∧ w'.cell? ⟨w.heap.size, 1, none⟩ = some (.int .i64 (p2n : Int)) ∧ w'.cell? ⟨w.heap.size + 1, 0, none⟩ = some (.int .i64 q1) ∧ w'.cell? ⟨w.heap.size + 1, 1, none⟩ = some (.int .i64 (q2n : Int)) ∧ w'.cell? ⟨w.heap.size + 1 + 1, 0, none⟩ = some (.int .i64 g1) ∧ w'.cell? ⟨w.heap.size + 1 + 1, 1, none⟩ = some (.int .i64 g2))
                      (first | with_reducible exact ⟨l0_u2, l1_u2, m0_u2, m1_u2, h0_u2, h1_u2⟩ | with_reducible exact ⟨l0_u3, l1_u3, m0_u3, m1_u3, h0_u3, h1_u3⟩ | with_reducible exact ⟨l0_u4, l1_u4, m0_u4, m1_u4, h0_u4, h1_u4⟩ | with_reducible exact ⟨l0_u5, l1_u5, m0_u5, m1_u5, h0_u5, h1_u5⟩ | exact ⟨l0_u2, l1_u2, m0_u2, m1_u2, h0_u2, h1_u2⟩ | fail)
                      (first
                        | (go_at_call_of 30 (Value.agg #[.int .i64 q1, .int .i64 (q2n : Int)]); refine (partsBetween_any _ q1 (q2n : Int) g1 g2 (by omega) (by omega) (by omega) (by omega)).mono ?_; rintro e u3 ⟨rfl, n_u3⟩; (try replace n_u3 := New.undrew n_u3); have l0_u3 : u3.cell? ⟨w.heap.size, 0, none⟩ = some (.int .i64 p1) := n_u3.cell l0_u2; have l1_u3 : u3.cell? ⟨w.heap.size, 1, none⟩ = some (.int .i64 (p2n : Int)) := n_u3.cell l1_u2; have m0_u3 : u3.cell? ⟨w.heap.size + 1, 0, none⟩ = some (.int .i64 q1) := n_u3.cell m0_u2; have m1_u3 : u3.cell? ⟨w.heap.size + 1, 1, none⟩ = some (.int .i64 (q2n : Int)) := n_u3.cell m1_u2; have h0_u3 : u3.cell? ⟨w.heap.size + 1 + 1, 0, none⟩ = some (.int .i64 g1) := n_u3.cell h0_u2; have h1_u3 : u3.cell? ⟨w.heap.size + 1 + 1, 1, none⟩ = some (.int .i64 g2) := n_u3.cell h1_u2; rw [EA.out]; skip)
                        | (go_at_call_of 30 (Value.agg #[.int .i64 p1, .int .i64 (p2n : Int)]); refine (partsBetween_any _ p1 (p2n : Int) g1 g2 (by omega) (by omega) (by omega) (by omega)).mono ?_; rintro e u4 ⟨rfl, n_u4⟩; (try replace n_u4 := New.undrew n_u4); have l0_u4 : u4.cell? ⟨w.heap.size, 0, none⟩ = some (.int .i64 p1) := n_u4.cell l0_u3; have l1_u4 : u4.cell? ⟨w.heap.size, 1, none⟩ = some (.int .i64 (p2n : Int)) := n_u4.cell l1_u3; have m0_u4 : u4.cell? ⟨w.heap.size + 1, 0, none⟩ = some (.int .i64 q1) := n_u4.cell m0_u3; have m1_u4 : u4.cell? ⟨w.heap.size + 1, 1, none⟩ = some (.int .i64 (q2n : Int)) := n_u4.cell m1_u3; have h0_u4 : u4.cell? ⟨w.heap.size + 1 + 1, 0, none⟩ = some (.int .i64 g1) := n_u4.cell h0_u3; have h1_u4 : u4.cell? ⟨w.heap.size + 1 + 1, 1, none⟩ = some (.int .i64 g2) := n_u4.cell h1_u3; rw [EC.out]; skip)
                        | (go_at_call 29; refine (leastAmounts_any _ A p2n C q2n Ap (by omega) Cp (by omega) Ab (by omega) Cb (by omega)).mono ?_; rintro e u5 ⟨rfl, n_u5⟩; (try replace n_u5 := New.undrew n_u5); have l0_u5 : u5.cell? ⟨w.heap.size, 0, none⟩ = some (.int .i64 p1) := n_u5.cell l0_u4; have l1_u5 : u5.cell? ⟨w.heap.size, 1, none⟩ = some (.int .i64 (p2n : Int)) := n_u5.cell l1_u4; have m0_u5 : u5.cell? ⟨w.heap.size + 1, 0, none⟩ = some (.int .i64 q1) := n_u5.cell m0_u4; have m1_u5 : u5.cell? ⟨w.heap.size + 1, 1, none⟩ = some (.int .i64 (q2n : Int)) := n_u5.cell m1_u4; have h0_u5 : u5.cell? ⟨w.heap.size + 1 + 1, 0, none⟩ = some (.int .i64 g1) := n_u5.cell h0_u4; have h1_u5 : u5.cell? ⟨w.heap.size + 1 + 1, 1, none⟩ = some (.int .i64 g2) := n_u5.cell h1_u4;  skip))
                    have K_u3 := Lib.hid (show New u2 u3 from n_u3); clear n_u3
                    have K_u4 := Lib.hid (show New u3 u4 from n_u4); clear n_u4
                    have K_u5 := Lib.hid (show New u4 u5 from n_u5); clear n_u5
                    obtain ⟨P, hP⟩ : ∃ x, x = red ((A : Int) * (p2n : Int)) ((C : Int) * (q2n : Int)) := ⟨_, rfl⟩
                    rw [← hP] at WB WM ⊢; clear hP
                    go_wp2
                    refine bodyPost_ret (v := .tuple #[.int .i64 ((capX P).1), .int .i64 ((capX P).2), .bool (capP P)]) (by simp [results, Try.results12, go_sem]) rfl ⟨by rw [WM.out, WB.out], ?_⟩
                    have := (((((N3.out.trans K_u1.out).trans K_u2.out).trans K_u3.out).trans K_u4.out).trans K_u5.out)
                    (repeat (first | with_reducible exact New.refl _ | with_reducible assumption | refine New.drewN ?_ _ | refine New.drew ?_ | refine New.alloc ?_ _ | refine New.setCell ?_ (by first | omega | (simp; omega) | (simp; done)) _ | (refine New.trans ?_ (by assumption))))
                · have hb := bool_no hb
                  have WB := Lib.hid (U.out hb).1; have WM := Lib.hid (U.out hb).2
                  have HB := Lib.hid hb; clear hb U M
                  go_enter Try.func12, Try.ntmps12
                  go_upto_region 1 with fail
                  obtain ⟨v0, hv0⟩ : ∃ xx : World, xx = (((w.alloc (.cells #[.int .i64 p1, .int .i64 p2] 27)).alloc (.cells #[.int .i64 q1, .int .i64 q2] 27)).alloc (.cells #[.int .i64 g1, .int .i64 g2] 27)) := ⟨_, rfl⟩
                  rw [← hv0]
                  have l0_v0 : v0.cell? ⟨w.heap.size, 0, none⟩ = some (.int .i64 p1) := by rw [hv0]; simp [go_sem]
                  have l1_v0 : v0.cell? ⟨w.heap.size, 1, none⟩ = some (.int .i64 p2) := by rw [hv0]; simp [go_sem]
                  have m0_v0 : v0.cell? ⟨w.heap.size + 1, 0, none⟩ = some (.int .i64 q1) := by rw [hv0]; simp [go_sem]
                  have m1_v0 : v0.cell? ⟨w.heap.size + 1, 1, none⟩ = some (.int .i64 q2) := by rw [hv0]; simp [go_sem]
                  have h0_v0 : v0.cell? ⟨w.heap.size + 1 + 1, 0, none⟩ = some (.int .i64 g1) := by rw [hv0]; simp [go_sem]
                  have h1_v0 : v0.cell? ⟨w.heap.size + 1 + 1, 1, none⟩ = some (.int .i64 g2) := by rw [hv0]; simp [go_sem]
                  have N0 := Lib.hid (show New w v0 by rw [hv0]; exact (by repeat (first | with_reducible exact New.refl _ | with_reducible assumption | refine New.drewN ?_ _ | refine New.drew ?_ | refine New.alloc ?_ _ | refine New.setCell ?_ (by first | omega | (simp; omega) | (simp; done)) _ | (refine New.trans ?_ (by assumption)))))
                  have zv0 : w.heap.size + 1 + 1 < v0.heap.size := by rw [hv0]; simp
                  clear hv0
                  go_wp2_with fail
                  refine (iIsRatio_any _ p1 p2).mono ?_
                  rintro e w1 ⟨rfl, n_w1⟩
                  rw [G1.out]
                  have l0_w1 : w1.cell? ⟨w.heap.size, 0, none⟩ = some (.int .i64 p1) := n_w1.cell l0_v0; have l1_w1 : w1.cell? ⟨w.heap.size, 1, none⟩ = some (.int .i64 p2) := n_w1.cell l1_v0; have m0_w1 : w1.cell? ⟨w.heap.size + 1, 0, none⟩ = some (.int .i64 q1) := n_w1.cell m0_v0; have m1_w1 : w1.cell? ⟨w.heap.size + 1, 1, none⟩ = some (.int .i64 q2) := n_w1.cell m1_v0; have h0_w1 : w1.cell? ⟨w.heap.size + 1 + 1, 0, none⟩ = some (.int .i64 g1) := n_w1.cell h0_v0; have h1_w1 : w1.cell? ⟨w.heap.size + 1 + 1, 1, none⟩ = some (.int .i64 g2) := n_w1.cell h1_v0
                  have N1 := Lib.hid (N0.out.trans n_w1)
                  clear n_w1 l0_v0 l1_v0 m0_v0 m1_v0 h0_v0 h1_v0
                  go_wp2_with fail
                  refine (iIsRatio_any _ q1 q2).mono ?_
                  rintro e w2 ⟨rfl, n_w2⟩
                  rw [G2.out]
                  have l0_w2 : w2.cell? ⟨w.heap.size, 0, none⟩ = some (.int .i64 p1) := n_w2.cell l0_w1; have l1_w2 : w2.cell? ⟨w.heap.size, 1, none⟩ = some (.int .i64 p2) := n_w2.cell l1_w1; have m0_w2 : w2.cell? ⟨w.heap.size + 1, 0, none⟩ = some (.int .i64 q1) := n_w2.cell m0_w1; have m1_w2 : w2.cell? ⟨w.heap.size + 1, 1, none⟩ = some (.int .i64 q2) := n_w2.cell m1_w1; have h0_w2 : w2.cell? ⟨w.heap.size + 1 + 1, 0, none⟩ = some (.int .i64 g1) := n_w2.cell h0_w1; have h1_w2 : w2.cell? ⟨w.heap.size + 1 + 1, 1, none⟩ = some (.int .i64 g2) := n_w2.cell h1_w1
                  have N2 := Lib.hid (N1.out.trans n_w2)
                  clear n_w2 l0_w1 l1_w1 m0_w1 m1_w1 h0_w1 h1_w1
                  go_wp2_with fail
                  refine (iIsRatio_any _ g1 g2).mono ?_
                  rintro e w3 ⟨rfl, n_w3⟩
                  rw [G3.out]
                  have l0_w3 : w3.cell? ⟨w.heap.size, 0, none⟩ = some (.int .i64 p1) := n_w3.cell l0_w2; have l1_w3 : w3.cell? ⟨w.heap.size, 1, none⟩ = some (.int .i64 p2) := n_w3.cell l1_w2; have m0_w3 : w3.cell? ⟨w.heap.size + 1, 0, none⟩ = some (.int .i64 q1) := n_w3.cell m0_w2; have m1_w3 : w3.cell? ⟨w.heap.size + 1, 1, none⟩ = some (.int .i64 q2) := n_w3.cell m1_w2; have h0_w3 : w3.cell? ⟨w.heap.size + 1 + 1, 0, none⟩ = some (.int .i64 g1) := n_w3.cell h0_w2; have h1_w3 : w3.cell? ⟨w.heap.size + 1 + 1, 1, none⟩ = some (.int .i64 g2) := n_w3.cell h1_w2
                  have N3 := Lib.hid (N2.out.trans n_w3)
                  clear n_w3 l0_w2 l1_w2 m0_w2 m1_w2 h0_w2 h1_w2
                  go_upto_region 7 with fail
                  go_region_held3 (fun w' => w'.cell? ⟨w.heap.size, 0, none⟩ = some (.int .i64 p1) ∧ w'.cell? ⟨w.heap.size, 1, none⟩ = some (.int .i64 p2) ∧ w'.cell? ⟨w.heap.size + 1, 0, none⟩ = some (.int .i64 q1) ∧ w'.cell? ⟨w.heap.size + 1, 1, none⟩ = some (.int .i64 q2) ∧ w'.cell? ⟨w.heap.size + 1 + 1, 0, none⟩ = some (.int .i64 g1) ∧ w'.cell? ⟨w.heap.size + 1 + 1, 1, none⟩ = some (.int .i64 g2))
                    (first | with_reducible exact ⟨l0_w3, l1_w3, m0_w3, m1_w3, h0_w3, h1_w3⟩ | with_reducible exact ⟨l0_u1, l1_u1, m0_u1, m1_u1, h0_u1, h1_u1⟩ | with_reducible exact ⟨l0_u2, l1_u2, m0_u2, m1_u2, h0_u2, h1_u2⟩ | exact ⟨l0_w3, l1_w3, m0_w3, m1_w3, h0_w3, h1_w3⟩ | fail)
                    (first
                      | (go_at_call_of 27 (Value.agg #[.int .i64 p1, .int .i64 p2]); refine (isLess_any _ p1 p2 g1 g2 (by omega) (by omega) (by omega) (by omega)).mono ?_; rintro e u1 ⟨rfl, n_u1⟩; (try replace n_u1 := New.undrew n_u1); have l0_u1 : u1.cell? ⟨w.heap.size, 0, none⟩ = some (.int .i64 p1) := n_u1.cell l0_w3; have l1_u1 : u1.cell? ⟨w.heap.size, 1, none⟩ = some (.int .i64 p2) := n_u1.cell l1_w3; have m0_u1 : u1.cell? ⟨w.heap.size + 1, 0, none⟩ = some (.int .i64 q1) := n_u1.cell m0_w3; have m1_u1 : u1.cell? ⟨w.heap.size + 1, 1, none⟩ = some (.int .i64 q2) := n_u1.cell m1_w3; have h0_u1 : u1.cell? ⟨w.heap.size + 1 + 1, 0, none⟩ = some (.int .i64 g1) := n_u1.cell h0_w3; have h1_u1 : u1.cell? ⟨w.heap.size + 1 + 1, 1, none⟩ = some (.int .i64 g2) := n_u1.cell h1_w3;  skip)
                      | (go_at_call_of 27 (Value.agg #[.int .i64 g1, .int .i64 g2]); refine (isLess_any _ g1 g2 q1 q2 (by omega) (by omega) (by omega) (by omega)).mono ?_; rintro e u2 ⟨rfl, n_u2⟩; (try replace n_u2 := New.undrew n_u2); have l0_u2 : u2.cell? ⟨w.heap.size, 0, none⟩ = some (.int .i64 p1) := n_u2.cell l0_u1; have l1_u2 : u2.cell? ⟨w.heap.size, 1, none⟩ = some (.int .i64 p2) := n_u2.cell l1_u1; have m0_u2 : u2.cell? ⟨w.heap.size + 1, 0, none⟩ = some (.int .i64 q1) := n_u2.cell m0_u1; have m1_u2 : u2.cell? ⟨w.heap.size + 1, 1, none⟩ = some (.int .i64 q2) := n_u2.cell m1_u1; have h0_u2 : u2.cell? ⟨w.heap.size + 1 + 1, 0, none⟩ = some (.int .i64 g1) := n_u2.cell h0_u1; have h1_u2 : u2.cell? ⟨w.heap.size + 1 + 1, 1, none⟩ = some (.int .i64 g2) := n_u2.cell h1_u1;  skip))
                  have K_u1 := Lib.hid (show New w3 u1 from n_u1); clear n_u1
                  have K_u2 := Lib.hid (show New u1 u2 from n_u2); clear n_u2
                  have HX : decide (p1 * g2 < g1 * p2) = !decide (g1 * q2 < q1 * g2) := beq_no HB.out
                  rw [HX]
                  obtain ⟨bb, hbb⟩ : ∃ x, x = decide (g1 * q2 < q1 * g2) := ⟨_, rfl⟩
                  rw [← hbb]; clear hbb HX
                  cases bb
                  all_goals
                    go_wp2
                    refine bodyPost_ret (v := .tuple #[.int .i64 (0), .int .i64 (0), .bool false]) (by simp [results, Try.results12, go_sem]) rfl ⟨by rw [WM.out, WB.out], ?_⟩
                    have := ((N3.out.trans K_u1.out).trans K_u2.out)
                    (repeat (first | with_reducible exact New.refl _ | with_reducible assumption | refine New.drewN ?_ _ | refine New.drew ?_ | refine New.alloc ?_ _ | refine New.setCell ?_ (by first | omega | (simp; omega) | (simp; done)) _ | (refine New.trans ?_ (by assumption))))
      · have hg := bool_no hg
        have G3 := Lib.hid hg
        have WB := Lib.hid (show blB p1 p2 q1 q2 g1 g2 = false by unfold blB; rw [hg]; simp)
        have WM := Lib.hid (blM_no WB.out)
        clear hp hq hg
        go_enter Try.func12, Try.ntmps12
        go_upto_region 1 with fail
        obtain ⟨v0, hv0⟩ : ∃ xx : World, xx = (((w.alloc (.cells #[.int .i64 p1, .int .i64 p2] 27)).alloc (.cells #[.int .i64 q1, .int .i64 q2] 27)).alloc (.cells #[.int .i64 g1, .int .i64 g2] 27)) := ⟨_, rfl⟩
        rw [← hv0]
        have l0_v0 : v0.cell? ⟨w.heap.size, 0, none⟩ = some (.int .i64 p1) := by rw [hv0]; simp [go_sem]
        have l1_v0 : v0.cell? ⟨w.heap.size, 1, none⟩ = some (.int .i64 p2) := by rw [hv0]; simp [go_sem]
        have m0_v0 : v0.cell? ⟨w.heap.size + 1, 0, none⟩ = some (.int .i64 q1) := by rw [hv0]; simp [go_sem]
        have m1_v0 : v0.cell? ⟨w.heap.size + 1, 1, none⟩ = some (.int .i64 q2) := by rw [hv0]; simp [go_sem]
        have h0_v0 : v0.cell? ⟨w.heap.size + 1 + 1, 0, none⟩ = some (.int .i64 g1) := by rw [hv0]; simp [go_sem]
        have h1_v0 : v0.cell? ⟨w.heap.size + 1 + 1, 1, none⟩ = some (.int .i64 g2) := by rw [hv0]; simp [go_sem]
        have N0 := Lib.hid (show New w v0 by rw [hv0]; exact (by repeat (first | with_reducible exact New.refl _ | with_reducible assumption | refine New.drewN ?_ _ | refine New.drew ?_ | refine New.alloc ?_ _ | refine New.setCell ?_ (by first | omega | (simp; omega) | (simp; done)) _ | (refine New.trans ?_ (by assumption)))))
        have zv0 : w.heap.size + 1 + 1 < v0.heap.size := by rw [hv0]; simp
        clear hv0
        go_wp2_with fail
        refine (iIsRatio_any _ p1 p2).mono ?_
        rintro e w1 ⟨rfl, n_w1⟩
        rw [G1.out]
        have l0_w1 : w1.cell? ⟨w.heap.size, 0, none⟩ = some (.int .i64 p1) := n_w1.cell l0_v0; have l1_w1 : w1.cell? ⟨w.heap.size, 1, none⟩ = some (.int .i64 p2) := n_w1.cell l1_v0; have m0_w1 : w1.cell? ⟨w.heap.size + 1, 0, none⟩ = some (.int .i64 q1) := n_w1.cell m0_v0; have m1_w1 : w1.cell? ⟨w.heap.size + 1, 1, none⟩ = some (.int .i64 q2) := n_w1.cell m1_v0; have h0_w1 : w1.cell? ⟨w.heap.size + 1 + 1, 0, none⟩ = some (.int .i64 g1) := n_w1.cell h0_v0; have h1_w1 : w1.cell? ⟨w.heap.size + 1 + 1, 1, none⟩ = some (.int .i64 g2) := n_w1.cell h1_v0
        have N1 := Lib.hid (N0.out.trans n_w1)
        clear n_w1 l0_v0 l1_v0 m0_v0 m1_v0 h0_v0 h1_v0
        go_wp2_with fail
        refine (iIsRatio_any _ q1 q2).mono ?_
        rintro e w2 ⟨rfl, n_w2⟩
        rw [G2.out]
        have l0_w2 : w2.cell? ⟨w.heap.size, 0, none⟩ = some (.int .i64 p1) := n_w2.cell l0_w1; have l1_w2 : w2.cell? ⟨w.heap.size, 1, none⟩ = some (.int .i64 p2) := n_w2.cell l1_w1; have m0_w2 : w2.cell? ⟨w.heap.size + 1, 0, none⟩ = some (.int .i64 q1) := n_w2.cell m0_w1; have m1_w2 : w2.cell? ⟨w.heap.size + 1, 1, none⟩ = some (.int .i64 q2) := n_w2.cell m1_w1; have h0_w2 : w2.cell? ⟨w.heap.size + 1 + 1, 0, none⟩ = some (.int .i64 g1) := n_w2.cell h0_w1; have h1_w2 : w2.cell? ⟨w.heap.size + 1 + 1, 1, none⟩ = some (.int .i64 g2) := n_w2.cell h1_w1
        have N2 := Lib.hid (N1.out.trans n_w2)
        clear n_w2 l0_w1 l1_w1 m0_w1 m1_w1 h0_w1 h1_w1
        go_wp2_with fail
        refine (iIsRatio_any _ g1 g2).mono ?_
        rintro e w3 ⟨rfl, n_w3⟩
        rw [G3.out]
        have l0_w3 : w3.cell? ⟨w.heap.size, 0, none⟩ = some (.int .i64 p1) := n_w3.cell l0_w2; have l1_w3 : w3.cell? ⟨w.heap.size, 1, none⟩ = some (.int .i64 p2) := n_w3.cell l1_w2; have m0_w3 : w3.cell? ⟨w.heap.size + 1, 0, none⟩ = some (.int .i64 q1) := n_w3.cell m0_w2; have m1_w3 : w3.cell? ⟨w.heap.size + 1, 1, none⟩ = some (.int .i64 q2) := n_w3.cell m1_w2; have h0_w3 : w3.cell? ⟨w.heap.size + 1 + 1, 0, none⟩ = some (.int .i64 g1) := n_w3.cell h0_w2; have h1_w3 : w3.cell? ⟨w.heap.size + 1 + 1, 1, none⟩ = some (.int .i64 g2) := n_w3.cell h1_w2
        have N3 := Lib.hid (N2.out.trans n_w3)
        clear n_w3 l0_w2 l1_w2 m0_w2 m1_w2 h0_w2 h1_w2
        go_wp2
        refine bodyPost_ret (v := .tuple #[.int .i64 (0), .int .i64 (0), .bool false]) (by simp [results, Try.results12, go_sem]) rfl ⟨by rw [WM.out, WB.out], ?_⟩
        have := N3.out
        (repeat (first | with_reducible exact New.refl _ | with_reducible assumption | refine New.drewN ?_ _ | refine New.drew ?_ | refine New.alloc ?_ _ | refine New.setCell ?_ (by first | omega | (simp; omega) | (simp; done)) _ | (refine New.trans ?_ (by assumption))))
    · have hq := bool_no hq
      have G2 := Lib.hid hq
      have WB := Lib.hid (show blB p1 p2 q1 q2 g1 g2 = false by unfold blB; rw [hq]; simp)
      have WM := Lib.hid (blM_no WB.out)
      clear hp hq
      go_enter Try.func12, Try.ntmps12
      go_upto_region 1 with fail
      obtain ⟨v0, hv0⟩ : ∃ xx : World, xx = (((w.alloc (.cells #[.int .i64 p1, .int .i64 p2] 27)).alloc (.cells #[.int .i64 q1, .int .i64 q2] 27)).alloc (.cells #[.int .i64 g1, .int .i64 g2] 27)) := ⟨_, rfl⟩
      rw [← hv0]
      have l0_v0 : v0.cell? ⟨w.heap.size, 0, none⟩ = some (.int .i64 p1) := by rw [hv0]; simp [go_sem]
      have l1_v0 : v0.cell? ⟨w.heap.size, 1, none⟩ = some (.int .i64 p2) := by rw [hv0]; simp [go_sem]
      have m0_v0 : v0.cell? ⟨w.heap.size + 1, 0, none⟩ = some (.int .i64 q1) := by rw [hv0]; simp [go_sem]
      have m1_v0 : v0.cell? ⟨w.heap.size + 1, 1, none⟩ = some (.int .i64 q2) := by rw [hv0]; simp [go_sem]
      have h0_v0 : v0.cell? ⟨w.heap.size + 1 + 1, 0, none⟩ = some (.int .i64 g1) := by rw [hv0]; simp [go_sem]
      have h1_v0 : v0.cell? ⟨w.heap.size + 1 + 1, 1, none⟩ = some (.int .i64 g2) := by rw [hv0]; simp [go_sem]
      have N0 := Lib.hid (show New w v0 by rw [hv0]; exact (by repeat (first | with_reducible exact New.refl _ | with_reducible assumption | refine New.drewN ?_ _ | refine New.drew ?_ | refine New.alloc ?_ _ | refine New.setCell ?_ (by first | omega | (simp; omega) | (simp; done)) _ | (refine New.trans ?_ (by assumption)))))
      have zv0 : w.heap.size + 1 + 1 < v0.heap.size := by rw [hv0]; simp
      clear hv0
      go_wp2_with fail
      refine (iIsRatio_any _ p1 p2).mono ?_
      rintro e w1 ⟨rfl, n_w1⟩
      rw [G1.out]
      have l0_w1 : w1.cell? ⟨w.heap.size, 0, none⟩ = some (.int .i64 p1) := n_w1.cell l0_v0; have l1_w1 : w1.cell? ⟨w.heap.size, 1, none⟩ = some (.int .i64 p2) := n_w1.cell l1_v0; have m0_w1 : w1.cell? ⟨w.heap.size + 1, 0, none⟩ = some (.int .i64 q1) := n_w1.cell m0_v0; have m1_w1 : w1.cell? ⟨w.heap.size + 1, 1, none⟩ = some (.int .i64 q2) := n_w1.cell m1_v0; have h0_w1 : w1.cell? ⟨w.heap.size + 1 + 1, 0, none⟩ = some (.int .i64 g1) := n_w1.cell h0_v0; have h1_w1 : w1.cell? ⟨w.heap.size + 1 + 1, 1, none⟩ = some (.int .i64 g2) := n_w1.cell h1_v0
      have N1 := Lib.hid (N0.out.trans n_w1)
      clear n_w1 l0_v0 l1_v0 m0_v0 m1_v0 h0_v0 h1_v0
      go_wp2_with fail
      refine (iIsRatio_any _ q1 q2).mono ?_
      rintro e w2 ⟨rfl, n_w2⟩
      rw [G2.out]
      have l0_w2 : w2.cell? ⟨w.heap.size, 0, none⟩ = some (.int .i64 p1) := n_w2.cell l0_w1; have l1_w2 : w2.cell? ⟨w.heap.size, 1, none⟩ = some (.int .i64 p2) := n_w2.cell l1_w1; have m0_w2 : w2.cell? ⟨w.heap.size + 1, 0, none⟩ = some (.int .i64 q1) := n_w2.cell m0_w1; have m1_w2 : w2.cell? ⟨w.heap.size + 1, 1, none⟩ = some (.int .i64 q2) := n_w2.cell m1_w1; have h0_w2 : w2.cell? ⟨w.heap.size + 1 + 1, 0, none⟩ = some (.int .i64 g1) := n_w2.cell h0_w1; have h1_w2 : w2.cell? ⟨w.heap.size + 1 + 1, 1, none⟩ = some (.int .i64 g2) := n_w2.cell h1_w1
      have N2 := Lib.hid (N1.out.trans n_w2)
      clear n_w2 l0_w1 l1_w1 m0_w1 m1_w1 h0_w1 h1_w1
      go_wp2
      refine bodyPost_ret (v := .tuple #[.int .i64 (0), .int .i64 (0), .bool false]) (by simp [results, Try.results12, go_sem]) rfl ⟨by rw [WM.out, WB.out], ?_⟩
      have := N2.out
      (repeat (first | with_reducible exact New.refl _ | with_reducible assumption | refine New.drewN ?_ _ | refine New.drew ?_ | refine New.alloc ?_ _ | refine New.setCell ?_ (by first | omega | (simp; omega) | (simp; done)) _ | (refine New.trans ?_ (by assumption))))
  · have hp := bool_no hp
    have G1 := Lib.hid hp
    have WB := Lib.hid (show blB p1 p2 q1 q2 g1 g2 = false by unfold blB; rw [hp]; rfl)
    have WM := Lib.hid (blM_no WB.out)
    clear hp
    go_enter Try.func12, Try.ntmps12
    go_upto_region 1 with fail
    obtain ⟨v0, hv0⟩ : ∃ xx : World, xx = (((w.alloc (.cells #[.int .i64 p1, .int .i64 p2] 27)).alloc (.cells #[.int .i64 q1, .int .i64 q2] 27)).alloc (.cells #[.int .i64 g1, .int .i64 g2] 27)) := ⟨_, rfl⟩
    rw [← hv0]
    have l0_v0 : v0.cell? ⟨w.heap.size, 0, none⟩ = some (.int .i64 p1) := by rw [hv0]; simp [go_sem]
    have l1_v0 : v0.cell? ⟨w.heap.size, 1, none⟩ = some (.int .i64 p2) := by rw [hv0]; simp [go_sem]
    have m0_v0 : v0.cell? ⟨w.heap.size + 1, 0, none⟩ = some (.int .i64 q1) := by rw [hv0]; simp [go_sem]
    have m1_v0 : v0.cell? ⟨w.heap.size + 1, 1, none⟩ = some (.int .i64 q2) := by rw [hv0]; simp [go_sem]
    have h0_v0 : v0.cell? ⟨w.heap.size + 1 + 1, 0, none⟩ = some (.int .i64 g1) := by rw [hv0]; simp [go_sem]
    have h1_v0 : v0.cell? ⟨w.heap.size + 1 + 1, 1, none⟩ = some (.int .i64 g2) := by rw [hv0]; simp [go_sem]
    have N0 := Lib.hid (show New w v0 by rw [hv0]; exact (by repeat (first | with_reducible exact New.refl _ | with_reducible assumption | refine New.drewN ?_ _ | refine New.drew ?_ | refine New.alloc ?_ _ | refine New.setCell ?_ (by first | omega | (simp; omega) | (simp; done)) _ | (refine New.trans ?_ (by assumption)))))
    have zv0 : w.heap.size + 1 + 1 < v0.heap.size := by rw [hv0]; simp
    clear hv0
    go_wp2_with fail
    refine (iIsRatio_any _ p1 p2).mono ?_
    rintro e w1 ⟨rfl, n_w1⟩
    rw [G1.out]
    have l0_w1 : w1.cell? ⟨w.heap.size, 0, none⟩ = some (.int .i64 p1) := n_w1.cell l0_v0; have l1_w1 : w1.cell? ⟨w.heap.size, 1, none⟩ = some (.int .i64 p2) := n_w1.cell l1_v0; have m0_w1 : w1.cell? ⟨w.heap.size + 1, 0, none⟩ = some (.int .i64 q1) := n_w1.cell m0_v0; have m1_w1 : w1.cell? ⟨w.heap.size + 1, 1, none⟩ = some (.int .i64 q2) := n_w1.cell m1_v0; have h0_w1 : w1.cell? ⟨w.heap.size + 1 + 1, 0, none⟩ = some (.int .i64 g1) := n_w1.cell h0_v0; have h1_w1 : w1.cell? ⟨w.heap.size + 1 + 1, 1, none⟩ = some (.int .i64 g2) := n_w1.cell h1_v0
    have N1 := Lib.hid (N0.out.trans n_w1)
    clear n_w1 l0_v0 l1_v0 m0_v0 m1_v0 h0_v0 h1_v0
    go_wp2
    refine bodyPost_ret (v := .tuple #[.int .i64 (0), .int .i64 (0), .bool false]) (by simp [results, Try.results12, go_sem]) rfl ⟨by rw [WM.out, WB.out], ?_⟩
    have := N1.out
    (repeat (first | with_reducible exact New.refl _ | with_reducible assumption | refine New.drewN ?_ _ | refine New.drew ?_ | refine New.alloc ?_ _ | refine New.setCell ?_ (by first | omega | (simp; omega) | (simp; done)) _ | (refine New.trans ?_ (by assumption))))
end Go.Proofs.Ytefpnlimkelehaa
