/- What is drawn of blends is some ratios. -/
import Derived.Test.YtefpnlimkelehaaDrw
namespace Go.Proofs.Ytefpnlimkelehaa
open Go.RowKit Go.IntWalk

theorem mul_bd2 {a b A C : Int} (h1 : -A ≤ a) (h2 : a ≤ A) (h3 : 0 ≤ b) (h4 : b ≤ C) (hA : 0 ≤ A) : -(A * C) ≤ a * b ∧ a * b ≤ A * C := by
  have k1 := Int.mul_le_mul_of_nonneg_right h2 h3
  have k2 := Int.mul_le_mul_of_nonneg_right h1 h3
  have k3 := Int.mul_le_mul_of_nonneg_left h4 hA
  rw [Int.neg_mul] at k2
  omega

set_option maxRecDepth 100000 in
set_option maxHeartbeats 16000000 in
theorem drawBlend_any (w : World) (ao : Option Addr) (n cap : Nat) (hb : Byts w ao n cap) :
    Calls Try.prog 11 #[.slice ao n cap] w fun e w' => ∃ p q g : Int × Int, e = .returned (.tuple #[ratV p, ratV q, ratV g]) ∧ New w w' := by
  obtain ⟨W3, hW3⟩ : ∃ W3, W3 = ((w.alloc (.cells #[.int .i64 0, .int .i64 0] 27)).alloc (.cells #[.int .i64 0, .int .i64 0] 27)).alloc (.cells #[.int .i64 0, .int .i64 0] 27) := ⟨_, rfl⟩
  have HB3 : Byts W3 ao n cap := by rw [hW3]; exact hb.new (by repeat (first | with_reducible exact New.refl _ | with_reducible assumption | refine New.drewN ?_ _ | refine New.drew ?_ | refine New.alloc ?_ _ | refine New.setCell ?_ (by first | omega | (simp; omega) | (simp; done)) _ | (refine New.trans ?_ (by assumption))))
  have z3 : W3.heap.size = w.heap.size + 3 := by rw [hW3]; simp
  have H := Lib.hid (Cur.fresh' (c := w.heap.size + 3) HB3 z3)
  have X0 := Lib.hid (show Bx (W3.alloc (.cells #[.slice ao n cap, .int .i64 0, .int .u64 0] 41)) w.heap.size by rw [hW3]; exact (Bx.made' w 0 0 27 rfl).new (by repeat (first | with_reducible exact New.refl _ | with_reducible assumption | refine New.drewN ?_ _ | refine New.drew ?_ | refine New.alloc ?_ _ | refine New.setCell ?_ (by first | omega | (simp; omega) | (simp; done)) _ | (refine New.trans ?_ (by assumption)))))
  have Y0 := Lib.hid (show Bx (W3.alloc (.cells #[.slice ao n cap, .int .i64 0, .int .u64 0] 41)) (w.heap.size + 1) by rw [hW3]; exact (Bx.made' (w.alloc (.cells #[.int .i64 0, .int .i64 0] 27)) 0 0 27 (by simp)).new (by repeat (first | with_reducible exact New.refl _ | with_reducible assumption | refine New.drewN ?_ _ | refine New.drew ?_ | refine New.alloc ?_ _ | refine New.setCell ?_ (by first | omega | (simp; omega) | (simp; done)) _ | (refine New.trans ?_ (by assumption)))))
  have Z0 := Lib.hid (show Bx (W3.alloc (.cells #[.slice ao n cap, .int .i64 0, .int .u64 0] 41)) (w.heap.size + 2) by rw [hW3]; exact (Bx.made' ((w.alloc (.cells #[.int .i64 0, .int .i64 0] 27)).alloc (.cells #[.int .i64 0, .int .i64 0] 27)) 0 0 27 (by simp)).new (by repeat (first | with_reducible exact New.refl _ | with_reducible assumption | refine New.drewN ?_ _ | refine New.drew ?_ | refine New.alloc ?_ _ | refine New.setCell ?_ (by first | omega | (simp; omega) | (simp; done)) _ | (refine New.trans ?_ (by assumption)))))
  have G0 := Lib.hid (show New w (W3.alloc (.cells #[.slice ao n cap, .int .i64 0, .int .u64 0] 41)) by rw [hW3]; exact (by repeat (first | with_reducible exact New.refl _ | with_reducible assumption | refine New.drewN ?_ _ | refine New.drew ?_ | refine New.alloc ?_ _ | refine New.setCell ?_ (by first | omega | (simp; omega) | (simp; done)) _ | (refine New.trans ?_ (by assumption)))))
  have HW3 := Lib.hid hW3
  clear hb HB3 z3 hW3
  go_enter Try.func11, Try.ntmps11
  go_wp2_with fail
  rw [← HW3.out]
  obtain ⟨B, hB⟩ : ∃ B, B = w.heap.size := ⟨_, rfl⟩
  rw [← hB] at H X0 Y0 Z0 ⊢
  have HW := Lib.hid hB; clear hB HW3
  refine (ratio_any _ (B + 3) 0 H.out (by omega)).mono ?_
  rintro e w1 ⟨⟨p1, p2⟩, rfl, hcc, hch⟩
  have C1 := Lib.hid hcc
  have X1 := Lib.hid (X0.out.chg hch (by omega))
  have Y1 := Lib.hid (Y0.out.chg hch (by omega))
  have Z1 := Lib.hid (Z0.out.chg hch (by omega))
  have G1 := Lib.hid ((Chg.of_new (P := fun b => b = B + 3) G0.out).trans hch)
  clear hcc hch H X0 Y0 Z0 G0
  unfold ratV
  simp only
  obtain ⟨c, hc⟩ : ∃ c, c = B + 3 := ⟨_, rfl⟩
  rw [← hc] at C1 G1 ⊢
  have HC := Lib.hid hc; clear hc
  go_wp2_with fail
  refine (ratio_any _ c 10 C1.out (by omega)).mono ?_
  rintro e w2 ⟨⟨q1, q2⟩, rfl, hcc, hch⟩
  have C2 := Lib.hid hcc
  have X2 := Lib.hid (X1.out.chg hch (by have := HC.out; omega))
  have Y2 := Lib.hid (Y1.out.chg hch (by have := HC.out; omega))
  have Z2 := Lib.hid (Z1.out.chg hch (by have := HC.out; omega))
  have G2 := Lib.hid (G1.out.trans hch)
  clear hcc hch C1 X1 Y1 Z1 G1
  unfold ratV
  simp only
  go_wp2_with fail
  refine (one_any _ c 20 3 (C2.out.new (by repeat (first | with_reducible exact New.refl _ | with_reducible assumption | refine New.drewN ?_ _ | refine New.drew ?_ | refine New.alloc ?_ _ | refine New.setCell ?_ (by first | omega | (simp; omega) | (simp; done)) _ | (refine New.trans ?_ (by assumption))))) (by omega) (by omega)).mono ?_
  rintro e w3 ⟨bb, rfl, hcc, hch⟩
  obtain ⟨P, hP⟩ : ∃ P, P = w2.heap.size := ⟨_, rfl⟩
  obtain ⟨Q, hQ⟩ : ∃ Q, Q = w2.heap.size + 1 := ⟨_, rfl⟩
  have hB2 : B + 2 < P := by
    obtain ⟨_, _, q, _⟩ := Z2.out.ex
    have := World.block_lt_of_cell? _ _ q
    simp only at this; omega
  have hcP : c < P := by have := C2.out.lt; omega
  have hPQ : Q = P + 1 := by omega
  have nPc : ¬ P = c := by omega
  have nQc : ¬ Q = c := by omega
  have hc' := HC.out
  have nBc : ¬ B = c := by omega
  have nB1c : ¬ B + 1 = c := by omega
  have nB2c : ¬ B + 1 + 1 = c := by omega
  clear hc'
  have a0 : w3.cell? ⟨P, 0, none⟩ = some (.int .i64 p1) := hch.cell (by rw [hP]; simp) nPc
  have a1 : w3.cell? ⟨P, 1, none⟩ = some (.int .i64 p2) := hch.cell (by rw [hP]; simp) nPc
  have b0 : w3.cell? ⟨Q, 0, none⟩ = some (.int .i64 q1) := hch.cell (by rw [hQ]; simp) nQc
  have b1 : w3.cell? ⟨Q, 1, none⟩ = some (.int .i64 q2) := hch.cell (by rw [hQ]; simp) nQc
  have C3 := Lib.hid hcc
  have X3 := Lib.hid ((X2.out.new (by repeat (first | with_reducible exact New.refl _ | with_reducible assumption | refine New.drewN ?_ _ | refine New.drew ?_ | refine New.alloc ?_ _ | refine New.setCell ?_ (by first | omega | (simp; omega) | (simp; done)) _ | (refine New.trans ?_ (by assumption))))).chg hch nBc)
  have Y3 := Lib.hid ((Y2.out.new (by repeat (first | with_reducible exact New.refl _ | with_reducible assumption | refine New.drewN ?_ _ | refine New.drew ?_ | refine New.alloc ?_ _ | refine New.setCell ?_ (by first | omega | (simp; omega) | (simp; done)) _ | (refine New.trans ?_ (by assumption))))).chg hch nB1c)
  have Z3 := Lib.hid ((Z2.out.new (by repeat (first | with_reducible exact New.refl _ | with_reducible assumption | refine New.drewN ?_ _ | refine New.drew ?_ | refine New.alloc ?_ _ | refine New.setCell ?_ (by first | omega | (simp; omega) | (simp; done)) _ | (refine New.trans ?_ (by assumption))))).chg hch nB2c)
  have G3 := Lib.hid (((G2.out.alloc _).alloc _).trans hch)
  clear hcc hch C2 X2 Y2 Z2 G2
  rw [← hQ, ← hP]
  have hBP : B < P := by omega
  have hB1P : B + 1 < P := by omega
  have hB2P : B + 1 + 1 < P := by omega
  have hBQ : B < Q := by omega
  have hB1Q : B + 1 < Q := by omega
  have hB2Q : B + 1 + 1 < Q := by omega
  have HPQ := Lib.hid hPQ
  clear hP hQ hPQ
  have nPQ : ¬ P = Q := by have := HPQ.out; omega
  obtain ⟨ux0, ux1, x0, x1⟩ := X3.out.ex
  obtain ⟨uy0, uy1, y0, y1⟩ := Y3.out.ex
  obtain ⟨uz0, uz1, z0, z1⟩ := Z3.out.ex
  have fx0 := X3.out.f0
  have fx1 := X3.out.f1
  have fy0 := Y3.out.f0
  have fy1 := Y3.out.f1
  have fz0 := Z3.out.f0
  have fz1 := Z3.out.f1
  cases bb with
  | true =>
    go_wp2_with fail
    go_region_held3 (fun w' => w'.cell? ⟨P, 0, none⟩ = some (.int .i64 p1) ∧ w'.cell? ⟨P, 1, none⟩ = some (.int .i64 p2) ∧ w'.cell? ⟨Q, 0, none⟩ = some (.int .i64 q1) ∧ w'.cell? ⟨Q, 1, none⟩ = some (.int .i64 q2))
      (first | with_reducible exact ⟨a0, a1, b0, b1⟩ | with_reducible exact ⟨k0, k1, k2, k3⟩ | with_reducible exact ⟨World.cell_set (World.cell_set (k0) (by simp; try omega)) (by simp; try omega), World.cell_set (World.cell_set (k1) (by simp; try omega)) (by simp; try omega), World.cell_set (World.cell_set (k2) (by simp; try omega)) (by simp; try omega), World.cell_set (World.cell_set (k3) (by simp; try omega)) (by simp; try omega)⟩ | with_reducible exact ⟨World.cell_set (World.cell_set (World.cell_set (World.cell_set (k0) (by simp; try omega)) (by simp; try omega)) (by simp; try omega)) (by simp; try omega), World.cell_set (World.cell_set (World.cell_set (World.cell_set (k1) (by simp; try omega)) (by simp; try omega)) (by simp; try omega)) (by simp; try omega), World.cell_set (World.cell_set (World.cell_set (World.cell_set (k2) (by simp; try omega)) (by simp; try omega)) (by simp; try omega)) (by simp; try omega), World.cell_set (World.cell_set (World.cell_set (World.cell_set (k3) (by simp; try omega)) (by simp; try omega)) (by simp; try omega)) (by simp; try omega)⟩ | with_reducible exact ⟨World.cell_set (World.cell_set (World.cell_set (World.cell_set (World.cell_set (World.cell_set (k0) (by simp; try omega)) (by simp; try omega)) (by simp; try omega)) (by simp; try omega)) (by simp; try omega)) (by simp; try omega), World.cell_set (World.cell_set (World.cell_set (World.cell_set (World.cell_set (World.cell_set (k1) (by simp; try omega)) (by simp; try omega)) (by simp; try omega)) (by simp; try omega)) (by simp; try omega)) (by simp; try omega), World.cell_set (World.cell_set (World.cell_set (World.cell_set (World.cell_set (World.cell_set (k2) (by simp; try omega)) (by simp; try omega)) (by simp; try omega)) (by simp; try omega)) (by simp; try omega)) (by simp; try omega), World.cell_set (World.cell_set (World.cell_set (World.cell_set (World.cell_set (World.cell_set (k3) (by simp; try omega)) (by simp; try omega)) (by simp; try omega)) (by simp; try omega)) (by simp; try omega)) (by simp; try omega)⟩ | exact ⟨a0, a1, b0, b1⟩ | exact ⟨k0, k1, k2, k3⟩ | fail)
      ((go_at_call 25; refine (ratio_any _ c 22 (C3.out.new (New.refl w3).drew) (by omega)).mono ?_; rintro e w9 ⟨⟨r1, r2⟩, rfl, hcc, hch⟩; have k0 : w9.cell? ⟨P, 0, none⟩ = some (.int .i64 p1) := hch.cell a0 nPc; have k1 : w9.cell? ⟨P, 1, none⟩ = some (.int .i64 p2) := hch.cell a1 nPc; have k2 : w9.cell? ⟨Q, 0, none⟩ = some (.int .i64 q1) := hch.cell b0 nQc; have k3 : w9.cell? ⟨Q, 1, none⟩ = some (.int .i64 q2) := hch.cell b1 nQc; have l0 := hch.cell x0 nBc; have l1 := hch.cell x1 nBc; have l2 := hch.cell y0 nB1c; have l3 := hch.cell y1 nB1c; have l4 := hch.cell z0 nB2c; have l5 := hch.cell z1 nB2c; have m0 := hch.frz' x0 nBc fx0; have m1 := hch.frz' x1 nBc fx1; have m2 := hch.frz' y0 nB1c fy0; have m3 := hch.frz' y1 nB1c fy1; have m4 := hch.frz' z0 nB2c fz0; have m5 := hch.frz' z1 nB2c fz1; have GG := Lib.hid (G3.out.trans ((Chg.of_new (New.refl w3).drew).trans hch)); clear hcc hch; simp only [ratV]))
    all_goals go_wp2
    all_goals
      have h1 := HW.out
      have h2 := HC.out
      refine bodyPost_ret (v := .tuple #[ratV (p1, p2), ratV (q1, q2), ratV (r1, r2)]) (by simp [results, Try.results11, go_sem, l0, l1, l2, l3, l4, l5]) rfl ⟨(p1, p2), (q1, q2), (r1, r2), rfl, ?_⟩
      exact Chg.new (New.refl w) (((((((GG.out.put (p := ⟨B, 0, none⟩) (by simp; omega) _).put (p := ⟨B, 1, none⟩) (by simp; omega) _).put (p := ⟨B + 1, 0, none⟩) (by simp; omega) _).put (p := ⟨B + 1, 1, none⟩) (by simp; omega) _).put (p := ⟨B + 1 + 1, 0, none⟩) (by simp; omega) _).put (p := ⟨B + 1 + 1, 1, none⟩) (by simp; omega) _)) (fun i hi => by omega)
  | false =>
    go_wp2_with fail
    refine (saGood_any _ p1 p2).mono ?_
    rintro e w4 ⟨rfl, n4⟩
    replace a0 := n4.cell a0
    replace a1 := n4.cell a1
    replace b0 := n4.cell b0
    replace b1 := n4.cell b1
    replace fx0 := n4.frz x0 fx0
    replace x0 := n4.cell x0
    replace fx1 := n4.frz x1 fx1
    replace x1 := n4.cell x1
    replace fy0 := n4.frz y0 fy0
    replace y0 := n4.cell y0
    replace fy1 := n4.frz y1 fy1
    replace y1 := n4.cell y1
    replace fz0 := n4.frz z0 fz0
    replace z0 := n4.cell z0
    replace fz1 := n4.frz z1 fz1
    replace z1 := n4.cell z1
    have C4 := Lib.hid (C3.out.new n4)
    have G4 := Lib.hid (G3.out.trans (Chg.of_new n4))
    clear n4 C3 G3
    by_cases hp : sgR p1 p2 = true
    · have HP := Lib.hid hp; clear hp
      rw [HP.out]
      go_wp2_with fail
      refine (saGood_any _ q1 q2).mono ?_
      rintro e w5 ⟨rfl, n5⟩
      replace a0 := n5.cell a0
      replace a1 := n5.cell a1
      replace b0 := n5.cell b0
      replace b1 := n5.cell b1
      replace fx0 := n5.frz x0 fx0
      replace x0 := n5.cell x0
      replace fx1 := n5.frz x1 fx1
      replace x1 := n5.cell x1
      replace fy0 := n5.frz y0 fy0
      replace y0 := n5.cell y0
      replace fy1 := n5.frz y1 fy1
      replace y1 := n5.cell y1
      replace fz0 := n5.frz z0 fz0
      replace z0 := n5.cell z0
      replace fz1 := n5.frz z1 fz1
      replace z1 := n5.cell z1
      have C5 := Lib.hid (C4.out.new n5)
      have G5 := Lib.hid (G4.out.trans (Chg.of_new n5))
      clear n5 C4 G4
      by_cases hq : sgR q1 q2 = true
      · have HQ := Lib.hid hq; clear hq
        rw [HQ.out]
        go_wp2_with fail
        refine (pick_any _ c 22 4 C5.out (by omega) (by omega)).mono ?_
        rintro e w6 ⟨x, rfl, hx, hcc, hch⟩
        replace a0 := hch.cell a0 nPc
        replace a1 := hch.cell a1 nPc
        replace b0 := hch.cell b0 nQc
        replace b1 := hch.cell b1 nQc
        replace fx0 := hch.frz' x0 nBc fx0
        replace x0 := hch.cell x0 nBc
        replace fx1 := hch.frz' x1 nBc fx1
        replace x1 := hch.cell x1 nBc
        replace fy0 := hch.frz' y0 nB1c fy0
        replace y0 := hch.cell y0 nB1c
        replace fy1 := hch.frz' y1 nB1c fy1
        replace y1 := hch.cell y1 nB1c
        replace fz0 := hch.frz' z0 nB2c fz0
        replace z0 := hch.cell z0 nB2c
        replace fz1 := hch.frz' z1 nB2c fz1
        replace z1 := hch.cell z1 nB2c
        have C6 := Lib.hid hcc
        have G6 := Lib.hid (G5.out.trans hch)
        clear hcc hch C5 G5
        go_wp2_with fail
        refine (pick_any _ c 24 4 C6.out (by omega) (by omega)).mono ?_
        rintro e w7 ⟨y, rfl, hy, hcc, hch⟩
        replace a0 := hch.cell a0 nPc
        replace a1 := hch.cell a1 nPc
        replace b0 := hch.cell b0 nQc
        replace b1 := hch.cell b1 nQc
        replace fx0 := hch.frz' x0 nBc fx0
        replace x0 := hch.cell x0 nBc
        replace fx1 := hch.frz' x1 nBc fx1
        replace x1 := hch.cell x1 nBc
        replace fy0 := hch.frz' y0 nB1c fy0
        replace y0 := hch.cell y0 nB1c
        replace fy1 := hch.frz' y1 nB1c fy1
        replace y1 := hch.cell y1 nB1c
        replace fz0 := hch.frz' z0 nB2c fz0
        replace z0 := hch.cell z0 nB2c
        replace fz1 := hch.frz' z1 nB2c fz1
        replace z1 := hch.cell z1 nB2c
        have C7 := Lib.hid hcc
        have G7 := Lib.hid (G6.out.trans hch)
        clear hcc hch C6 G6
        have kp := sgR_iff.1 HP.out
        have kq := sgR_iff.1 HQ.out
        have g0 : IntKind.i64.wrap (1 + y) = 1 + y := i64_in _ (by omega)
        have u1 := mul_bd2 (a := p1) (b := x) (A := 1000000000) (C := 3) (by omega) (by omega) (by omega) (by omega) (by omega)
        have u2 := mul_bd2 (a := x * p1) (b := q2) (A := 3000000000) (C := 1000000000) (by rw [Int.mul_comm x p1]; omega) (by rw [Int.mul_comm x p1]; omega) (by omega) (by omega) (by omega)
        have u3 := mul_bd2 (a := q1) (b := 1 + y) (A := 1000000000) (C := 4) (by omega) (by omega) (by omega) (by omega) (by omega)
        have u4 := mul_bd2 (a := (1 + y) * q1) (b := p2) (A := 4000000000) (C := 1000000000) (by rw [Int.mul_comm (1 + y) q1]; omega) (by rw [Int.mul_comm (1 + y) q1]; omega) (by omega) (by omega) (by omega)
        have u5 := mul_bd2 (a := x + (1 + y)) (b := p2) (A := 7) (C := 1000000000) (by omega) (by omega) (by omega) (by omega) (by omega)
        have u6 := mul_bd2 (a := (x + (1 + y)) * p2) (b := q2) (A := 7000000000) (C := 1000000000) (by omega) (by omega) (by omega) (by omega) (by omega)
        have v5 : 0 < (x + (1 + y)) * p2 := Int.mul_pos (by omega) (by omega)
        have v6 : 0 < (x + (1 + y)) * p2 * q2 := Int.mul_pos v5 (by omega)
        rw [Int.mul_comm p1 x] at u1
        rw [Int.mul_comm q1 (1 + y)] at u3
        have g1 : IntKind.i64.wrap (x * p1) = x * p1 := i64_in _ (by omega)
        have g2 : IntKind.i64.wrap (x * p1 * q2) = x * p1 * q2 := i64_in _ (by omega)
        have g3 : IntKind.i64.wrap ((1 + y) * q1) = (1 + y) * q1 := i64_in _ (by omega)
        have g4 : IntKind.i64.wrap ((1 + y) * q1 * p2) = (1 + y) * q1 * p2 := i64_in _ (by omega)
        have g6 : IntKind.i64.wrap (x + (1 + y)) = x + (1 + y) := i64_in _ (by omega)
        have g7 : IntKind.i64.wrap ((x + (1 + y)) * p2) = (x + (1 + y)) * p2 := i64_in _ (by omega)
        obtain ⟨N, hN⟩ : ∃ N, N = x * p1 * q2 + (1 + y) * q1 * p2 := ⟨_, rfl⟩
        obtain ⟨M, hM⟩ : ∃ M, M = (x + (1 + y)) * p2 * q2 := ⟨_, rfl⟩
        have FR := Lib.hid (fun W => saRatio_wide W N M (by omega) (by omega) (by omega) (by omega))
        have g5 : IntKind.i64.wrap (x * p1 * q2 + (1 + y) * q1 * p2) = N := by rw [hN]; exact i64_in _ (by omega)
        have g8 : IntKind.i64.wrap ((x + (1 + y)) * p2 * q2) = M := by rw [hM]; exact i64_in _ (by omega)
        clear hN hM u1 u2 u3 u4 u5 u6 v5 v6 kp kq hx hy
        go_wp2_with fail
        refine (FR.out _).mono ?_
        rintro e w8 ⟨rfl, n8⟩
        replace a0 := n8.cell a0
        replace a1 := n8.cell a1
        replace b0 := n8.cell b0
        replace b1 := n8.cell b1
        replace fx0 := n8.frz x0 fx0
        replace x0 := n8.cell x0
        replace fx1 := n8.frz x1 fx1
        replace x1 := n8.cell x1
        replace fy0 := n8.frz y0 fy0
        replace y0 := n8.cell y0
        replace fy1 := n8.frz y1 fy1
        replace y1 := n8.cell y1
        replace fz0 := n8.frz z0 fz0
        replace z0 := n8.cell z0
        replace fz1 := n8.frz z1 fz1
        replace z1 := n8.cell z1
        have C8 := Lib.hid (C7.out.new n8)
        have G8 := Lib.hid (G7.out.trans (Chg.of_new n8))
        clear n8 C7 G7
        obtain ⟨r1, hr1⟩ : ∃ p, p = (red N M).1 := ⟨_, rfl⟩
        obtain ⟨r2, hr2⟩ : ∃ p, p = (red N M).2 := ⟨_, rfl⟩
        obtain ⟨bb, hbb⟩ : ∃ b, b = sgR (red N M).1 (red N M).2 := ⟨_, rfl⟩
        unfold ratV
        rw [← hbb, ← hr1, ← hr2]
        clear hr1 hr2 hbb FR C8 g0 g1 g2 g3 g4 g5 g6 g7 g8
        cases bb with
        | false =>
          go_wp2
          obtain ⟨v, hv⟩ : ∃ v, v = w8.alloc (.cells #[.int .i64 r1, .int .i64 r2] 27) := ⟨_, rfl⟩
          rw [← hv]
          have nv : New w8 v := by rw [hv]; exact (New.refl _).alloc _
          clear hv
          replace a0 := nv.cell a0
          replace a1 := nv.cell a1
          replace b0 := nv.cell b0
          replace b1 := nv.cell b1
          replace fx0 := nv.frz x0 fx0
          replace x0 := nv.cell x0
          replace fx1 := nv.frz x1 fx1
          replace x1 := nv.cell x1
          replace fy0 := nv.frz y0 fy0
          replace y0 := nv.cell y0
          replace fy1 := nv.frz y1 fy1
          replace y1 := nv.cell y1
          replace fz0 := nv.frz z0 fz0
          replace z0 := nv.cell z0
          replace fz1 := nv.frz z1 fz1
          replace z1 := nv.cell z1
          have GV := Lib.hid (G8.out.trans (Chg.of_new nv))
          clear nv G8
          go_region
          all_goals go_wp2
          all_goals
            have h1 := HW.out
            have h2 := HC.out
            refine bodyPost_ret (v := .tuple #[ratV (p1, p2), ratV (q1, q2), ratV (p1, p2)]) (by simp [results, Try.results11, go_sem, x0, x1, y0, y1, z0, z1]) rfl ⟨(p1, p2), (q1, q2), (p1, p2), rfl, ?_⟩
            exact Chg.new (New.refl w) (Chg.trans ((((((GV.out.put (p := ⟨B, 0, none⟩) (by simp; omega) _).put (p := ⟨B, 1, none⟩) (by simp; omega) _).put (p := ⟨B + 1, 0, none⟩) (by simp; omega) _).put (p := ⟨B + 1, 1, none⟩) (by simp; omega) _).put (p := ⟨B + 1 + 1, 0, none⟩) (by simp; omega) _).put (p := ⟨B + 1 + 1, 1, none⟩) (by simp; omega) _) (Chg.of_new (New.refl _).drew)) (fun i hi => by omega)
        | true =>
          go_wp2
          obtain ⟨v, hv⟩ : ∃ v, v = w8.alloc (.cells #[.int .i64 r1, .int .i64 r2] 27) := ⟨_, rfl⟩
          obtain ⟨R, hR⟩ : ∃ R, R = w8.heap.size := ⟨_, rfl⟩
          rw [← hv, ← hR]
          have nv : New w8 v := by rw [hv]; exact (New.refl _).alloc _
          have s0 : v.cell? ⟨R, 0, none⟩ = some (.int .i64 r1) := by rw [hv, hR]; simp
          have s1 : v.cell? ⟨R, 1, none⟩ = some (.int .i64 r2) := by rw [hv, hR]; simp
          have hRP : P < R := by have := World.block_lt_of_cell? _ _ a0; simp only at this; omega
          have hRB : B < R := by omega
          have hRB1 : B + 1 < R := by omega
          have hRB2 : B + 1 + 1 < R := by omega
          clear hv hR
          replace a0 := nv.cell a0
          replace a1 := nv.cell a1
          replace b0 := nv.cell b0
          replace b1 := nv.cell b1
          replace fx0 := nv.frz x0 fx0
          replace x0 := nv.cell x0
          replace fx1 := nv.frz x1 fx1
          replace x1 := nv.cell x1
          replace fy0 := nv.frz y0 fy0
          replace y0 := nv.cell y0
          replace fy1 := nv.frz y1 fy1
          replace y1 := nv.cell y1
          replace fz0 := nv.frz z0 fz0
          replace z0 := nv.cell z0
          replace fz1 := nv.frz z1 fz1
          replace z1 := nv.cell z1
          have GV := Lib.hid (G8.out.trans (Chg.of_new nv))
          clear nv G8
          go_region
          all_goals go_wp2
          all_goals
            have h1 := HW.out
            have h2 := HC.out
            refine bodyPost_ret (v := .tuple #[ratV (p1, p2), ratV (q1, q2), ratV (r1, r2)]) (by simp [results, Try.results11, go_sem, x0, x1, y0, y1, z0, z1]) rfl ⟨(p1, p2), (q1, q2), (r1, r2), rfl, ?_⟩
            exact Chg.new (New.refl w) (Chg.trans ((((((GV.out.put (p := ⟨B, 0, none⟩) (by simp; omega) _).put (p := ⟨B, 1, none⟩) (by simp; omega) _).put (p := ⟨B + 1, 0, none⟩) (by simp; omega) _).put (p := ⟨B + 1, 1, none⟩) (by simp; omega) _).put (p := ⟨B + 1 + 1, 0, none⟩) (by simp; omega) _).put (p := ⟨B + 1 + 1, 1, none⟩) (by simp; omega) _) (Chg.of_new (New.refl _).drew)) (fun i hi => by omega)
      · have hf := bool_no hq
        rw [hf]
        clear hq hf HP
        go_wp2_with fail
        go_region_held3 (fun w' => w'.cell? ⟨P, 0, none⟩ = some (.int .i64 p1) ∧ w'.cell? ⟨P, 1, none⟩ = some (.int .i64 p2) ∧ w'.cell? ⟨Q, 0, none⟩ = some (.int .i64 q1) ∧ w'.cell? ⟨Q, 1, none⟩ = some (.int .i64 q2))
          (first | with_reducible exact ⟨a0, a1, b0, b1⟩ | with_reducible exact ⟨k0, k1, k2, k3⟩ | with_reducible exact ⟨World.cell_set (World.cell_set (k0) (by simp; try omega)) (by simp; try omega), World.cell_set (World.cell_set (k1) (by simp; try omega)) (by simp; try omega), World.cell_set (World.cell_set (k2) (by simp; try omega)) (by simp; try omega), World.cell_set (World.cell_set (k3) (by simp; try omega)) (by simp; try omega)⟩ | with_reducible exact ⟨World.cell_set (World.cell_set (World.cell_set (World.cell_set (k0) (by simp; try omega)) (by simp; try omega)) (by simp; try omega)) (by simp; try omega), World.cell_set (World.cell_set (World.cell_set (World.cell_set (k1) (by simp; try omega)) (by simp; try omega)) (by simp; try omega)) (by simp; try omega), World.cell_set (World.cell_set (World.cell_set (World.cell_set (k2) (by simp; try omega)) (by simp; try omega)) (by simp; try omega)) (by simp; try omega), World.cell_set (World.cell_set (World.cell_set (World.cell_set (k3) (by simp; try omega)) (by simp; try omega)) (by simp; try omega)) (by simp; try omega)⟩ | with_reducible exact ⟨World.cell_set (World.cell_set (World.cell_set (World.cell_set (World.cell_set (World.cell_set (k0) (by simp; try omega)) (by simp; try omega)) (by simp; try omega)) (by simp; try omega)) (by simp; try omega)) (by simp; try omega), World.cell_set (World.cell_set (World.cell_set (World.cell_set (World.cell_set (World.cell_set (k1) (by simp; try omega)) (by simp; try omega)) (by simp; try omega)) (by simp; try omega)) (by simp; try omega)) (by simp; try omega), World.cell_set (World.cell_set (World.cell_set (World.cell_set (World.cell_set (World.cell_set (k2) (by simp; try omega)) (by simp; try omega)) (by simp; try omega)) (by simp; try omega)) (by simp; try omega)) (by simp; try omega), World.cell_set (World.cell_set (World.cell_set (World.cell_set (World.cell_set (World.cell_set (k3) (by simp; try omega)) (by simp; try omega)) (by simp; try omega)) (by simp; try omega)) (by simp; try omega)) (by simp; try omega)⟩ | exact ⟨a0, a1, b0, b1⟩ | exact ⟨k0, k1, k2, k3⟩ | fail)
          ((go_at_call 25; refine (ratio_any _ c 22 (C5.out.new (New.refl w5).drew) (by omega)).mono ?_; rintro e w9 ⟨⟨r1, r2⟩, rfl, hcc, hch⟩; have k0 : w9.cell? ⟨P, 0, none⟩ = some (.int .i64 p1) := hch.cell a0 nPc; have k1 : w9.cell? ⟨P, 1, none⟩ = some (.int .i64 p2) := hch.cell a1 nPc; have k2 : w9.cell? ⟨Q, 0, none⟩ = some (.int .i64 q1) := hch.cell b0 nQc; have k3 : w9.cell? ⟨Q, 1, none⟩ = some (.int .i64 q2) := hch.cell b1 nQc; have l0 := hch.cell x0 nBc; have l1 := hch.cell x1 nBc; have l2 := hch.cell y0 nB1c; have l3 := hch.cell y1 nB1c; have l4 := hch.cell z0 nB2c; have l5 := hch.cell z1 nB2c; have m0 := hch.frz' x0 nBc fx0; have m1 := hch.frz' x1 nBc fx1; have m2 := hch.frz' y0 nB1c fy0; have m3 := hch.frz' y1 nB1c fy1; have m4 := hch.frz' z0 nB2c fz0; have m5 := hch.frz' z1 nB2c fz1; have GG := Lib.hid (G5.out.trans ((Chg.of_new (New.refl w5).drew).trans hch)); clear hcc hch; simp only [ratV]))
        all_goals go_wp2
        all_goals
          have h1 := HW.out
          have h2 := HC.out
          refine bodyPost_ret (v := .tuple #[ratV (p1, p2), ratV (q1, q2), ratV (r1, r2)]) (by simp [results, Try.results11, go_sem, l0, l1, l2, l3, l4, l5]) rfl ⟨(p1, p2), (q1, q2), (r1, r2), rfl, ?_⟩
          exact Chg.new (New.refl w) (((((((GG.out.put (p := ⟨B, 0, none⟩) (by simp; omega) _).put (p := ⟨B, 1, none⟩) (by simp; omega) _).put (p := ⟨B + 1, 0, none⟩) (by simp; omega) _).put (p := ⟨B + 1, 1, none⟩) (by simp; omega) _).put (p := ⟨B + 1 + 1, 0, none⟩) (by simp; omega) _).put (p := ⟨B + 1 + 1, 1, none⟩) (by simp; omega) _)) (fun i hi => by omega)
    · have hf := bool_no hp
      rw [hf]
      clear hp hf
      go_wp2_with fail
      go_region_held3 (fun w' => w'.cell? ⟨P, 0, none⟩ = some (.int .i64 p1) ∧ w'.cell? ⟨P, 1, none⟩ = some (.int .i64 p2) ∧ w'.cell? ⟨Q, 0, none⟩ = some (.int .i64 q1) ∧ w'.cell? ⟨Q, 1, none⟩ = some (.int .i64 q2))
        (first | with_reducible exact ⟨a0, a1, b0, b1⟩ | with_reducible exact ⟨k0, k1, k2, k3⟩ | with_reducible exact ⟨World.cell_set (World.cell_set (k0) (by simp; try omega)) (by simp; try omega), World.cell_set (World.cell_set (k1) (by simp; try omega)) (by simp; try omega), World.cell_set (World.cell_set (k2) (by simp; try omega)) (by simp; try omega), World.cell_set (World.cell_set (k3) (by simp; try omega)) (by simp; try omega)⟩ | with_reducible exact ⟨World.cell_set (World.cell_set (World.cell_set (World.cell_set (k0) (by simp; try omega)) (by simp; try omega)) (by simp; try omega)) (by simp; try omega), World.cell_set (World.cell_set (World.cell_set (World.cell_set (k1) (by simp; try omega)) (by simp; try omega)) (by simp; try omega)) (by simp; try omega), World.cell_set (World.cell_set (World.cell_set (World.cell_set (k2) (by simp; try omega)) (by simp; try omega)) (by simp; try omega)) (by simp; try omega), World.cell_set (World.cell_set (World.cell_set (World.cell_set (k3) (by simp; try omega)) (by simp; try omega)) (by simp; try omega)) (by simp; try omega)⟩ | with_reducible exact ⟨World.cell_set (World.cell_set (World.cell_set (World.cell_set (World.cell_set (World.cell_set (k0) (by simp; try omega)) (by simp; try omega)) (by simp; try omega)) (by simp; try omega)) (by simp; try omega)) (by simp; try omega), World.cell_set (World.cell_set (World.cell_set (World.cell_set (World.cell_set (World.cell_set (k1) (by simp; try omega)) (by simp; try omega)) (by simp; try omega)) (by simp; try omega)) (by simp; try omega)) (by simp; try omega), World.cell_set (World.cell_set (World.cell_set (World.cell_set (World.cell_set (World.cell_set (k2) (by simp; try omega)) (by simp; try omega)) (by simp; try omega)) (by simp; try omega)) (by simp; try omega)) (by simp; try omega), World.cell_set (World.cell_set (World.cell_set (World.cell_set (World.cell_set (World.cell_set (k3) (by simp; try omega)) (by simp; try omega)) (by simp; try omega)) (by simp; try omega)) (by simp; try omega)) (by simp; try omega)⟩ | exact ⟨a0, a1, b0, b1⟩ | exact ⟨k0, k1, k2, k3⟩ | fail)
        ((go_at_call 25; refine (ratio_any _ c 22 (C4.out.new (New.refl w4).drew) (by omega)).mono ?_; rintro e w9 ⟨⟨r1, r2⟩, rfl, hcc, hch⟩; have k0 : w9.cell? ⟨P, 0, none⟩ = some (.int .i64 p1) := hch.cell a0 nPc; have k1 : w9.cell? ⟨P, 1, none⟩ = some (.int .i64 p2) := hch.cell a1 nPc; have k2 : w9.cell? ⟨Q, 0, none⟩ = some (.int .i64 q1) := hch.cell b0 nQc; have k3 : w9.cell? ⟨Q, 1, none⟩ = some (.int .i64 q2) := hch.cell b1 nQc; have l0 := hch.cell x0 nBc; have l1 := hch.cell x1 nBc; have l2 := hch.cell y0 nB1c; have l3 := hch.cell y1 nB1c; have l4 := hch.cell z0 nB2c; have l5 := hch.cell z1 nB2c; have m0 := hch.frz' x0 nBc fx0; have m1 := hch.frz' x1 nBc fx1; have m2 := hch.frz' y0 nB1c fy0; have m3 := hch.frz' y1 nB1c fy1; have m4 := hch.frz' z0 nB2c fz0; have m5 := hch.frz' z1 nB2c fz1; have GG := Lib.hid (G4.out.trans ((Chg.of_new (New.refl w4).drew).trans hch)); clear hcc hch; simp only [ratV]))
      all_goals go_wp2
      all_goals
        have h1 := HW.out
        have h2 := HC.out
        refine bodyPost_ret (v := .tuple #[ratV (p1, p2), ratV (q1, q2), ratV (r1, r2)]) (by simp [results, Try.results11, go_sem, l0, l1, l2, l3, l4, l5]) rfl ⟨(p1, p2), (q1, q2), (r1, r2), rfl, ?_⟩
        exact Chg.new (New.refl w) (((((((GG.out.put (p := ⟨B, 0, none⟩) (by simp; omega) _).put (p := ⟨B, 1, none⟩) (by simp; omega) _).put (p := ⟨B + 1, 0, none⟩) (by simp; omega) _).put (p := ⟨B + 1, 1, none⟩) (by simp; omega) _).put (p := ⟨B + 1 + 1, 0, none⟩) (by simp; omega) _).put (p := ⟨B + 1 + 1, 1, none⟩) (by simp; omega) _)) (fun i hi => by omega)
end Go.Proofs.Ytefpnlimkelehaa
