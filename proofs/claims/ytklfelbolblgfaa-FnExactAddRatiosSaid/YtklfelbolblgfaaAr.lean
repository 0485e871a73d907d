/- AddRatios: the model's and the program's. -/
import Derived.Test.YtklfelbolblgfaaGood
import Derived.Test.YtklfelbolblgfaaRatJ
import Derived.Test.YtklfelbolblgfaaCutB
import Derived.Deep.RegionHeld3
import Derived.Deep.DeepCutAuto
namespace Go.Proofs.Ytklfelbolblgfaa
open Go.RowKit Go.IntWalk

def arS (a b c d : Int) : Int × Int := red (a * d + c * b) (b * d)
def gdR (a b : Int) : Bool := goodR 1000000000000 1000000 a b
def arB (a b c d : Int) : Bool := gdR a b && gdR c d && gdR (arS a b c d).1 (arS a b c d).2
def arM (a b c d : Int) : Int × Int := if arB a b c d then arS a b c d else (0, 0)
theorem arM_yes {a b c d : Int} (h : arB a b c d = true) : arM a b c d = arS a b c d := by unfold arM; rw [if_pos h]
theorem arM_no {a b c d : Int} (h : arB a b c d = false) : arM a b c d = (0, 0) := by unfold arM; rw [h]; rfl
theorem mul_bds {a d : Int} (h1 : -1000000000000 ≤ a) (h2 : a ≤ 1000000000000) (h3 : 0 ≤ d) (h4 : d ≤ 1000000) : -1000000000000000000 ≤ a * d ∧ a * d ≤ 1000000000000000000 := by
  have k1 := Int.mul_le_mul_of_nonneg_right h2 h3
  have k2 := Int.mul_le_mul_of_nonneg_right h1 h3
  omega
theorem mul_bdp {b d : Int} (h1 : 1 ≤ b) (h2 : b ≤ 1000000) (h3 : 1 ≤ d) (h4 : d ≤ 1000000) : 1 ≤ b * d ∧ b * d ≤ 1000000000000 := by
  have k1 := Int.mul_le_mul_of_nonneg_right h2 (show 0 ≤ d by omega)
  have k2 := Int.mul_le_mul_of_nonneg_right h1 (show 0 ≤ d by omega)
  omega
/-- What the model reckons by the greatest common divisor of the denominators. -/
theorem ar_model {a b c d : Int} (hb : 0 < b) (hd : 0 < d) : red (a * (red b d).2 + c * (red b d).1) ((red b d).1 * d) = arS a b c d := by
  have ⟨h1, h2⟩ := red_mul b d
  have hg := gcd_pos (n := b) hd
  have hp1 : 0 < (red b d).1 := by
    rcases Int.lt_trichotomy (red b d).1 0 with h | h | h
    · have := Int.mul_neg_of_neg_of_pos h hg; omega
    · rw [h] at h1; simp at h1; omega
    · exact h
  generalize (red b d).1 = x at *
  generalize (red b d).2 = y at *
  generalize (Int.gcd b d : Int) = g at *
  unfold arS
  refine red_eq (Int.mul_pos hp1 hd) (Int.mul_pos hb hd) ?_
  subst h1
  subst h2
  grind

set_option maxRecDepth 100000 in
set_option maxHeartbeats 4000000 in
theorem sAddRatios_any (w : World) (a b c d : Int) :
    Calls Try.prog 43 #[ratV (a, b), ratV (c, d)] w fun e w' => e = .returned (.tuple #[ratV (arM a b c d), .bool (arB a b c d)]) ∧ New w w' := by
  by_cases g1 : gdR a b = true
  · have G1 := Lib.hid (show goodR 1000000000000 1000000 a b = true from g1)
    by_cases g2 : gdR c d = true
    · have G2 := Lib.hid (show goodR 1000000000000 1000000 c d = true from g2)
      have i1 := goodR_iff.1 G1.out
      have i2 := goodR_iff.1 G2.out
      obtain ⟨⟨b1, b2⟩, ⟨a1, a2⟩, _⟩ := i1
      obtain ⟨⟨d1, d2⟩, ⟨c1, c2⟩, _⟩ := i2
      obtain ⟨S, hS⟩ : ∃ S, S = arS a b c d := ⟨_, rfl⟩
      obtain ⟨s1, s2⟩ := S
      have WF := Lib.hid (show arB a b c d = gdR s1 s2 by unfold arB; rw [g1, g2, ← hS]; rfl)
      have WS := Lib.hid (show arS a b c d = (s1, s2) from hS.symm)
      clear g1 g2 hS
      obtain ⟨bn, rfl⟩ : ∃ m : Nat, b = (m : Int) := ⟨b.toNat, by omega⟩
      obtain ⟨dn, rfl⟩ : ∃ m : Nat, d = (m : Int) := ⟨d.toNat, by omega⟩
      obtain ⟨g, hg⟩ : ∃ g : Nat, g = Int.gcd (bn : Int) (dn : Int) := ⟨_, rfl⟩
      have hgp : 0 < g := by have := gcd_pos (n := (bn : Int)) (d := (dn : Int)) (by omega); omega
      have HG := Lib.hid (show Nat.gcd bn dn = g by rw [hg]; rfl)
      have t1 : (bn : Int).tdiv (g : Int) = (red (bn : Int) (dn : Int)).1 := tdiv_red1 (by rw [hg]) (by omega)
      have t2 : (dn : Int).tdiv (g : Int) = (red (bn : Int) (dn : Int)).2 := tdiv_red2 (by rw [hg]) (by omega)
      have rl := red_le (n := (bn : Int)) (d := (dn : Int)) (by omega)
      have rp := red_pos (n := (bn : Int)) (d := (dn : Int)) (by omega)
      have rm := ar_model (a := a) (b := (bn : Int)) (c := c) (d := (dn : Int)) (by omega) (by omega)
      rw [WS.out] at rm
      have rx : 0 < (red (bn : Int) (dn : Int)).1 := by
        have q := (red_mul (bn : Int) (dn : Int)).1
        rcases Int.lt_trichotomy (red (bn : Int) (dn : Int)).1 0 with h | h | h
        · have := rl.2.1 (by omega); omega
        · rw [h] at q; simp at q; omega
        · exact h
      have rl1 := rl.1
      have rl2 := (rl.2.1 (by omega)).2
      generalize (red (bn : Int) (dn : Int)).1 = x at *
      generalize (red (bn : Int) (dn : Int)).2 = y at *
      have HS := Lib.hid rm
      clear rl rm hg
      have u1 : IntKind.i64.wrap ((bn : Int).tdiv (g : Int)) = x := by rw [t1]; exact i64_in _ (by omega)
      have u2 : IntKind.i64.wrap ((dn : Int).tdiv (g : Int)) = y := by rw [t2]; exact i64_in _ (by omega)
      have e1 : (bn : Int) / (g : Int) = x := by rw [← t1, Int.tdiv_eq_ediv_of_nonneg (by omega)]
      have e2 : (dn : Int) / (g : Int) = y := by rw [← t2, Int.tdiv_eq_ediv_of_nonneg (by omega)]
      clear t1 t2
      have q1 := mul_bds a1 a2 (show 0 ≤ y by omega) (by omega)
      have q2 := mul_bds c1 c2 (show 0 ≤ x by omega) (by omega)
      have q3 := mul_bdp (show 1 ≤ x by omega) (by omega) d1 d2
      obtain ⟨q1a, q1b⟩ := q1
      obtain ⟨q2a, q2b⟩ := q2
      obtain ⟨q3a, q3b⟩ := q3
      have g0 : ¬ g = 0 := by omega
      have bnb : bn ≤ 4611686018427387904 := by omega
      have dnb : dn ≤ 4611686018427387904 := by omega
      go_enter Try.func43, Try.ntmps43
      go_upto_region 1 with fail
      obtain ⟨v0, hv0⟩ : ∃ xx : World, xx = (((w.alloc (.cells #[.int .i64 a, .int .i64 (bn : Int)] 29)).alloc (.cells #[.int .i64 c, .int .i64 (dn : Int)] 29)).alloc (.cells #[.int .i64 0, .int .i64 0] 29)) := ⟨_, rfl⟩
      rw [← hv0]
      have l0_v0 : v0.cell? ⟨w.heap.size, 0, none⟩ = some (.int .i64 a) := by rw [hv0]; simp [go_sem]
      have l1_v0 : v0.cell? ⟨w.heap.size, 1, none⟩ = some (.int .i64 (bn : Int)) := by rw [hv0]; simp [go_sem]
      have m0_v0 : v0.cell? ⟨w.heap.size + 1, 0, none⟩ = some (.int .i64 c) := by rw [hv0]; simp [go_sem]
      have m1_v0 : v0.cell? ⟨w.heap.size + 1, 1, none⟩ = some (.int .i64 (dn : Int)) := by rw [hv0]; simp [go_sem]
      have r0_v0 : v0.cell? ⟨w.heap.size + 1 + 1, 0, none⟩ = some (.int .i64 0) := by rw [hv0]; simp [go_sem]
      have zr0_v0 : v0.frozen? ⟨w.heap.size + 1 + 1, 0, none⟩ = false := by rw [hv0]; simp [go_sem]
      have r1_v0 : v0.cell? ⟨w.heap.size + 1 + 1, 1, none⟩ = some (.int .i64 0) := by rw [hv0]; simp [go_sem]
      have zr1_v0 : v0.frozen? ⟨w.heap.size + 1 + 1, 1, none⟩ = false := by rw [hv0]; simp [go_sem]
      have N0 := Lib.hid (show New w v0 by rw [hv0]; exact (by repeat (first | with_reducible exact New.refl _ | with_reducible assumption | refine New.drewN ?_ _ | refine New.drew ?_ | refine New.alloc ?_ _ | refine New.setCell ?_ (by first | omega | (simp; omega) | (simp; done)) _ | (refine New.trans ?_ (by assumption)))))
      have zv0 : w.heap.size + 1 + 1 < v0.heap.size := by rw [hv0]; simp
      clear hv0
      go_wp2_with fail
      refine (leGood_any _ a (bn : Int)).mono ?_
      rintro e w1 ⟨rfl, n1⟩
      rw [G1.out]
      have l0 := n1.cell l0_v0
      have l1 := n1.cell l1_v0
      have m0 := n1.cell m0_v0
      have m1 := n1.cell m1_v0
      obtain ⟨r0, r1, y0, y1⟩ := pair_kept n1 ⟨r0_v0, r1_v0, zr0_v0, zr1_v0⟩
      have N1 := Lib.hid (N0.out.trans n1)
      clear n1 l0_v0 l1_v0 m0_v0 m1_v0 r0_v0 r1_v0 zr0_v0 zr1_v0
      go_wp2_with fail
      refine (leGood_any _ c (dn : Int)).mono ?_
      rintro e w2 ⟨rfl, n2⟩
      rw [G2.out]
      replace l0 := n2.cell l0
      replace l1 := n2.cell l1
      replace m0 := n2.cell m0
      replace m1 := n2.cell m1
      obtain ⟨r0, r1, y0, y1⟩ := pair_kept n2 ⟨r0, r1, y0, y1⟩
      have N2 := Lib.hid (N1.out.trans n2)
      clear n2
      go_wp2_with fail
      refine (veCommonB_any _ bn dn bnb dnb).mono ?_
      rintro e w3 ⟨rfl, n3⟩
      rw [HG.out]
      replace l0 := n3.cell l0
      replace l1 := n3.cell l1
      replace m0 := n3.cell m0
      replace m1 := n3.cell m1
      obtain ⟨r0, r1, y0, y1⟩ := pair_kept n3 ⟨r0, r1, y0, y1⟩
      have N3 := Lib.hid (N2.out.trans n3)
      clear n3
      have l0_w3 := l0
      have l1_w3 := l1
      have m0_w3 := m0
      have m1_w3 := m1
      have r0_w3 := r0
      have r1_w3 := r1
      have zr0_w3 := y0
      have zr1_w3 := y1
      have zr : w.heap.size + 1 + 1 < w3.heap.size := World.block_lt_of_cell? _ _ r0
      clear l0 l1 m0 m1 r0 r1 y0 y1
      have lr1 : 0 < x * (dn : Int) := by omega
      have lr2 : -4611686018427387904 ≤ a * y + c * x := by omega
      have lr3 : a * y + c * x ≤ 4611686018427387904 := by omega
      have lr4 : x * (dn : Int) ≤ 4611686018427387904 := by omega
      have e3 : IntKind.i64.wrap (a * y) = a * y := i64_in _ (by omega)
      have e4 : IntKind.i64.wrap (c * x) = c * x := i64_in _ (by omega)
      have e5 : IntKind.i64.wrap (a * y + c * x) = a * y + c * x := i64_in _ (by omega)
      have e6 : IntKind.i64.wrap (x * (dn : Int)) = x * (dn : Int) := i64_in _ (by omega)
      have e7 : IntKind.i64.wrap x = x := i64_in _ (by omega)
      have e8 : IntKind.i64.wrap y = y := i64_in _ (by omega)
      go_upto_region 4 with fail
      go_cut [7] (fun p W => CutBox w3 (.int .i64 s1) (.int .i64 s2) p W)
      case first =>
        go_region_held3 (fun w' => w'.cell? ⟨w.heap.size, 0, none⟩ = some (.int .i64 a) ∧ w'.cell? ⟨w.heap.size, 1, none⟩ = some (.int .i64 (bn : Int)) ∧ w'.cell? ⟨w.heap.size + 1, 0, none⟩ = some (.int .i64 c) ∧ w'.cell? ⟨w.heap.size + 1, 1, none⟩ = some (.int .i64 (dn : Int)))
          (first | with_reducible exact ⟨l0_w3, l1_w3, m0_w3, m1_w3⟩ | with_reducible exact ⟨World.cell_kept l0_w3, World.cell_kept l1_w3, World.cell_kept m0_w3, World.cell_kept m1_w3⟩ | with_reducible exact ⟨l0_u1, l1_u1, m0_u1, m1_u1⟩ | with_reducible exact ⟨World.cell_kept l0_u1, World.cell_kept l1_u1, World.cell_kept m0_u1, World.cell_kept m1_u1⟩ | with_reducible exact ⟨World.cell_set (World.cell_set l0_u1 (by simp; try omega)) (by simp; try omega), World.cell_set (World.cell_set l1_u1 (by simp; try omega)) (by simp; try omega), World.cell_set (World.cell_set m0_u1 (by simp; try omega)) (by simp; try omega), World.cell_set (World.cell_set m1_u1 (by simp; try omega)) (by simp; try omega)⟩ | exact ⟨l0_w3, l1_w3, m0_w3, m1_w3⟩ | exact ⟨World.cell_kept l0_w3, World.cell_kept l1_w3, World.cell_kept m0_w3, World.cell_kept m1_w3⟩ | fail)
          (first
            | (go_at_call 58; refine (leRatio_any _ (a * y + c * x) (x * (dn : Int)) lr1 lr2 lr3 lr4).mono ?_; rintro e u1 ⟨rfl, n_u1⟩; (try replace n_u1 := New.undrew n_u1); have l0_u1 : u1.cell? ⟨w.heap.size, 0, none⟩ = some (.int .i64 a) := n_u1.cell (by first | exact l0_w3 | exact World.cell_kept l0_w3); have l1_u1 : u1.cell? ⟨w.heap.size, 1, none⟩ = some (.int .i64 (bn : Int)) := n_u1.cell (by first | exact l1_w3 | exact World.cell_kept l1_w3); have m0_u1 : u1.cell? ⟨w.heap.size + 1, 0, none⟩ = some (.int .i64 c) := n_u1.cell (by first | exact m0_w3 | exact World.cell_kept m0_w3); have m1_u1 : u1.cell? ⟨w.heap.size + 1, 1, none⟩ = some (.int .i64 (dn : Int)) := n_u1.cell (by first | exact m1_w3 | exact World.cell_kept m1_w3); have e_u1 := n_u1.size; (try simp only [World.size_alloc] at e_u1); (try (have kk := New.box n_u1; obtain ⟨j0, j1, j2, j3, j4⟩ := kk)); (try (have kk := New.boxed n_u1 j0 j1 j2 j3; clear j0 j1 j2 j3; obtain ⟨j0, j1, j2, j3⟩ := kk)); rw [HS.out]; skip))
        all_goals (go_wp2_with fail; go_meet)
        all_goals
          have m0 : New w3 u1 := by first | exact n_u1 | exact ((New.refl _).alloc _).trans n_u1
          have y0 := n_u1.size
          (try simp only [World.size_alloc] at y0)
          have q0 := m0.size
          first
            | exact CutBox.behind m0
            | exact CutBox.put m0 (by omega) (by omega) j0 j1
      case rest =>
        obtain ⟨B2, rfl, hn, hlo, hhi, hc0, hc1⟩ := hcut
        obtain ⟨u2, rfl⟩ : ∃ u : World, u = wc := ⟨_, rfl⟩
        have l0_u2 : u2.cell? ⟨w.heap.size, 0, none⟩ = some (.int .i64 a) := hn.cell l0_w3
        have l1_u2 : u2.cell? ⟨w.heap.size, 1, none⟩ = some (.int .i64 (bn : Int)) := hn.cell l1_w3
        have m0_u2 : u2.cell? ⟨w.heap.size + 1, 0, none⟩ = some (.int .i64 c) := hn.cell m0_w3
        have m1_u2 : u2.cell? ⟨w.heap.size + 1, 1, none⟩ = some (.int .i64 (dn : Int)) := hn.cell m1_w3
        have r0_u2 : u2.cell? ⟨w.heap.size + 1 + 1, 0, none⟩ = some (.int .i64 0) := hn.cell r0_w3
        have zr0_u2 : u2.frozen? ⟨w.heap.size + 1 + 1, 0, none⟩ = false := hn.frz r0_w3 zr0_w3
        have r1_u2 : u2.cell? ⟨w.heap.size + 1 + 1, 1, none⟩ = some (.int .i64 0) := hn.cell r1_w3
        have zr1_u2 : u2.frozen? ⟨w.heap.size + 1 + 1, 1, none⟩ = false := hn.frz r1_w3 zr1_w3
        have c2_0_u2 := hc0
        have c2_1_u2 := hc1
        have K_u2 := Lib.hid (show New w3 u2 from hn)
        have z_u2 := hn.size
        clear hc0 hc1 hn
        clear e3 e4 e5 e6 e7 e8
        have t0 := c2_0_u2
        have t1 := c2_1_u2
        have r0 := r0_u2
        have r1 := r1_u2
        have y0 := zr0_u2
        have y1 := zr1_u2
        have zB : w.heap.size + 1 + 1 < B2 := by have := z_u2; omega
        have N6 := Lib.hid (N3.out.trans K_u2.out)
        go_wp2_with fail
        refine (leGood_any _ s1 s2).mono ?_
        rintro e w7 ⟨rfl, n7⟩
        replace t0 := n7.cell t0
        replace t1 := n7.cell t1
        obtain ⟨r0, r1, y0, y1⟩ := pair_kept n7 ⟨r0, r1, y0, y1⟩
        have N7 := Lib.hid (N6.out.trans n7)
        clear n7
        by_cases g3 : gdR s1 s2 = true
        · have WB := Lib.hid (show arB a bn c dn = true by rw [WF.out, g3])
          have WM := Lib.hid (show arM a bn c dn = (s1, s2) by rw [arM_yes WB.out, WS.out])
          rw [show goodR 1000000000000 1000000 s1 s2 = true from g3]
          go_wp2
          refine bodyPost_ret (v := .tuple #[ratV (s1, s2), .bool true]) (by simp [results, Try.results43, go_sem, r0, r1]) rfl ⟨by rw [WM.out, WB.out], ?_⟩
          have := N7.out
          (repeat (first | with_reducible exact New.refl _ | with_reducible assumption | refine New.drewN ?_ _ | refine New.drew ?_ | refine New.alloc ?_ _ | refine New.setCell ?_ (by first | omega | (simp; omega) | (simp; done)) _ | (refine New.trans ?_ (by assumption))))
        · have g3f := bool_no g3
          have WB := Lib.hid (show arB a bn c dn = false by rw [WF.out, g3f])
          have WM := Lib.hid (arM_no WB.out)
          rw [show goodR 1000000000000 1000000 s1 s2 = false from g3f]
          go_wp2
          refine bodyPost_ret (v := .tuple #[ratV (0, 0), .bool false]) (by simp [results, Try.results43, go_sem, r0, r1]) rfl ⟨by rw [WM.out, WB.out], ?_⟩
          have := N7.out
          (repeat (first | with_reducible exact New.refl _ | with_reducible assumption | refine New.drewN ?_ _ | refine New.drew ?_ | refine New.alloc ?_ _ | refine New.setCell ?_ (by first | omega | (simp; omega) | (simp; done)) _ | (refine New.trans ?_ (by assumption))))
    · have g2f := bool_no g2
      have G2 := Lib.hid (show goodR 1000000000000 1000000 c d = false from g2f)
      have WB := Lib.hid (show arB a b c d = false by unfold arB; rw [g1, g2f]; rfl)
      have WM := Lib.hid (arM_no WB.out)
      clear g1 g2 g2f
      go_enter Try.func43, Try.ntmps43
      go_upto_region 1 with fail
      obtain ⟨v0, hv0⟩ : ∃ xx : World, xx = (((w.alloc (.cells #[.int .i64 a, .int .i64 b] 29)).alloc (.cells #[.int .i64 c, .int .i64 d] 29)).alloc (.cells #[.int .i64 0, .int .i64 0] 29)) := ⟨_, rfl⟩
      rw [← hv0]
      have l0_v0 : v0.cell? ⟨w.heap.size, 0, none⟩ = some (.int .i64 a) := by rw [hv0]; simp [go_sem]
      have l1_v0 : v0.cell? ⟨w.heap.size, 1, none⟩ = some (.int .i64 b) := by rw [hv0]; simp [go_sem]
      have m0_v0 : v0.cell? ⟨w.heap.size + 1, 0, none⟩ = some (.int .i64 c) := by rw [hv0]; simp [go_sem]
      have m1_v0 : v0.cell? ⟨w.heap.size + 1, 1, none⟩ = some (.int .i64 d) := by rw [hv0]; simp [go_sem]
      have r0_v0 : v0.cell? ⟨w.heap.size + 1 + 1, 0, none⟩ = some (.int .i64 0) := by rw [hv0]; simp [go_sem]
      have zr0_v0 : v0.frozen? ⟨w.heap.size + 1 + 1, 0, none⟩ = false := by rw [hv0]; simp [go_sem]
      have r1_v0 : v0.cell? ⟨w.heap.size + 1 + 1, 1, none⟩ = some (.int .i64 0) := by rw [hv0]; simp [go_sem]
      have zr1_v0 : v0.frozen? ⟨w.heap.size + 1 + 1, 1, none⟩ = false := by rw [hv0]; simp [go_sem]
      have N0 := Lib.hid (show New w v0 by rw [hv0]; exact (by repeat (first | with_reducible exact New.refl _ | with_reducible assumption | refine New.drewN ?_ _ | refine New.drew ?_ | refine New.alloc ?_ _ | refine New.setCell ?_ (by first | omega | (simp; omega) | (simp; done)) _ | (refine New.trans ?_ (by assumption)))))
      have zv0 : w.heap.size + 1 + 1 < v0.heap.size := by rw [hv0]; simp
      clear hv0
      go_wp2_with fail
      refine (leGood_any _ a b).mono ?_
      rintro e w1 ⟨rfl, n1⟩
      rw [G1.out]
      have l0 := n1.cell l0_v0
      have l1 := n1.cell l1_v0
      have m0 := n1.cell m0_v0
      have m1 := n1.cell m1_v0
      obtain ⟨r0, r1, y0, y1⟩ := pair_kept n1 ⟨r0_v0, r1_v0, zr0_v0, zr1_v0⟩
      have N1 := Lib.hid (N0.out.trans n1)
      clear n1 l0_v0 l1_v0 m0_v0 m1_v0 r0_v0 r1_v0 zr0_v0 zr1_v0
      go_wp2_with fail
      refine (leGood_any _ c d).mono ?_
      rintro e w2 ⟨rfl, n2⟩
      rw [G2.out]
      replace l0 := n2.cell l0
      replace l1 := n2.cell l1
      replace m0 := n2.cell m0
      replace m1 := n2.cell m1
      obtain ⟨r0, r1, y0, y1⟩ := pair_kept n2 ⟨r0, r1, y0, y1⟩
      have N2 := Lib.hid (N1.out.trans n2)
      clear n2
      go_wp2
      refine bodyPost_ret (v := .tuple #[ratV (0, 0), .bool false]) (by simp [results, Try.results43, go_sem, r0, r1]) rfl ⟨by rw [WM.out, WB.out], ?_⟩
      have := N2.out
      (repeat (first | with_reducible exact New.refl _ | with_reducible assumption | refine New.drewN ?_ _ | refine New.drew ?_ | refine New.alloc ?_ _ | refine New.setCell ?_ (by first | omega | (simp; omega) | (simp; done)) _ | (refine New.trans ?_ (by assumption))))
  · have g1f := bool_no g1
    have G1 := Lib.hid (show goodR 1000000000000 1000000 a b = false from g1f)
    have WB := Lib.hid (show arB a b c d = false by unfold arB; rw [g1f]; rfl)
    have WM := Lib.hid (arM_no WB.out)
    clear g1 g1f
    go_enter Try.func43, Try.ntmps43
    go_upto_region 1 with fail
    obtain ⟨v0, hv0⟩ : ∃ xx : World, xx = (((w.alloc (.cells #[.int .i64 a, .int .i64 b] 29)).alloc (.cells #[.int .i64 c, .int .i64 d] 29)).alloc (.cells #[.int .i64 0, .int .i64 0] 29)) := ⟨_, rfl⟩
    rw [← hv0]
    have l0_v0 : v0.cell? ⟨w.heap.size, 0, none⟩ = some (.int .i64 a) := by rw [hv0]; simp [go_sem]
    have l1_v0 : v0.cell? ⟨w.heap.size, 1, none⟩ = some (.int .i64 b) := by rw [hv0]; simp [go_sem]
    have m0_v0 : v0.cell? ⟨w.heap.size + 1, 0, none⟩ = some (.int .i64 c) := by rw [hv0]; simp [go_sem]
    have m1_v0 : v0.cell? ⟨w.heap.size + 1, 1, none⟩ = some (.int .i64 d) := by rw [hv0]; simp [go_sem]
    have r0_v0 : v0.cell? ⟨w.heap.size + 1 + 1, 0, none⟩ = some (.int .i64 0) := by rw [hv0]; simp [go_sem]
    have zr0_v0 : v0.frozen? ⟨w.heap.size + 1 + 1, 0, none⟩ = false := by rw [hv0]; simp [go_sem]
    have r1_v0 : v0.cell? ⟨w.heap.size + 1 + 1, 1, none⟩ = some (.int .i64 0) := by rw [hv0]; simp [go_sem]
    have zr1_v0 : v0.frozen? ⟨w.heap.size + 1 + 1, 1, none⟩ = false := by rw [hv0]; simp [go_sem]
    have N0 := Lib.hid (show New w v0 by rw [hv0]; exact (by repeat (first | with_reducible exact New.refl _ | with_reducible assumption | refine New.drewN ?_ _ | refine New.drew ?_ | refine New.alloc ?_ _ | refine New.setCell ?_ (by first | omega | (simp; omega) | (simp; done)) _ | (refine New.trans ?_ (by assumption)))))
    have zv0 : w.heap.size + 1 + 1 < v0.heap.size := by rw [hv0]; simp
    clear hv0
    go_wp2_with fail
    refine (leGood_any _ a b).mono ?_
    rintro e w1 ⟨rfl, n1⟩
    rw [G1.out]
    have l0 := n1.cell l0_v0
    have l1 := n1.cell l1_v0
    have m0 := n1.cell m0_v0
    have m1 := n1.cell m1_v0
    obtain ⟨r0, r1, y0, y1⟩ := pair_kept n1 ⟨r0_v0, r1_v0, zr0_v0, zr1_v0⟩
    have N1 := Lib.hid (N0.out.trans n1)
    clear n1 l0_v0 l1_v0 m0_v0 m1_v0 r0_v0 r1_v0 zr0_v0 zr1_v0
    go_wp2
    refine bodyPost_ret (v := .tuple #[ratV (0, 0), .bool false]) (by simp [results, Try.results43, go_sem, r0, r1]) rfl ⟨by rw [WM.out, WB.out], ?_⟩
    have := N1.out
    (repeat (first | with_reducible exact New.refl _ | with_reducible assumption | refine New.drewN ?_ _ | refine New.drew ?_ | refine New.alloc ?_ _ | refine New.setCell ?_ (by first | omega | (simp; omega) | (simp; done)) _ | (refine New.trans ?_ (by assumption))))

set_option maxRecDepth 100000 in
set_option maxHeartbeats 4000000 in
theorem iAddRatios_any (w : World) (a b c d : Int) :
    Calls Try.prog 44 #[ratV (a, b), ratV (c, d)] w fun e w' => e = .returned (.tuple #[ratV (arM a b c d), .bool (arB a b c d)]) ∧ New w w' := by
  by_cases g1 : gdR a b = true
  · have G1 := Lib.hid (show goodR 1000000000000 1000000 a b = true from g1)
    by_cases g2 : gdR c d = true
    · have G2 := Lib.hid (show goodR 1000000000000 1000000 c d = true from g2)
      have i1 := goodR_iff.1 G1.out
      have i2 := goodR_iff.1 G2.out
      obtain ⟨⟨b1, b2⟩, ⟨a1, a2⟩, _⟩ := i1
      obtain ⟨⟨d1, d2⟩, ⟨c1, c2⟩, _⟩ := i2
      obtain ⟨S, hS⟩ : ∃ S, S = arS a b c d := ⟨_, rfl⟩
      obtain ⟨s1, s2⟩ := S
      have WF := Lib.hid (show arB a b c d = gdR s1 s2 by unfold arB; rw [g1, g2, ← hS]; rfl)
      have WS := Lib.hid (show arS a b c d = (s1, s2) from hS.symm)
      clear g1 g2 hS
      have q1 := mul_bds a1 a2 (show 0 ≤ d by omega) d2
      have q2 := mul_bds c1 c2 (show 0 ≤ b by omega) b2
      have q3 := mul_bdp b1 b2 d1 d2
      obtain ⟨q1a, q1b⟩ := q1
      obtain ⟨q2a, q2b⟩ := q2
      obtain ⟨q3a, q3b⟩ := q3
      have HS := Lib.hid (show red (a * d + c * b) (b * d) = (s1, s2) from WS.out)
      go_enter Try.func44, Try.ntmps44
      go_upto_region 1 with fail
      obtain ⟨v0, hv0⟩ : ∃ xx : World, xx = (((w.alloc (.cells #[.int .i64 a, .int .i64 b] 29)).alloc (.cells #[.int .i64 c, .int .i64 d] 29)).alloc (.cells #[.int .i64 0, .int .i64 0] 29)) := ⟨_, rfl⟩
      rw [← hv0]
      have l0_v0 : v0.cell? ⟨w.heap.size, 0, none⟩ = some (.int .i64 a) := by rw [hv0]; simp [go_sem]
      have l1_v0 : v0.cell? ⟨w.heap.size, 1, none⟩ = some (.int .i64 b) := by rw [hv0]; simp [go_sem]
      have m0_v0 : v0.cell? ⟨w.heap.size + 1, 0, none⟩ = some (.int .i64 c) := by rw [hv0]; simp [go_sem]
      have m1_v0 : v0.cell? ⟨w.heap.size + 1, 1, none⟩ = some (.int .i64 d) := by rw [hv0]; simp [go_sem]
      have r0_v0 : v0.cell? ⟨w.heap.size + 1 + 1, 0, none⟩ = some (.int .i64 0) := by rw [hv0]; simp [go_sem]
      have zr0_v0 : v0.frozen? ⟨w.heap.size + 1 + 1, 0, none⟩ = false := by rw [hv0]; simp [go_sem]
      have r1_v0 : v0.cell? ⟨w.heap.size + 1 + 1, 1, none⟩ = some (.int .i64 0) := by rw [hv0]; simp [go_sem]
      have zr1_v0 : v0.frozen? ⟨w.heap.size + 1 + 1, 1, none⟩ = false := by rw [hv0]; simp [go_sem]
      have N0 := Lib.hid (show New w v0 by rw [hv0]; exact (by repeat (first | with_reducible exact New.refl _ | with_reducible assumption | refine New.drewN ?_ _ | refine New.drew ?_ | refine New.alloc ?_ _ | refine New.setCell ?_ (by first | omega | (simp; omega) | (simp; done)) _ | (refine New.trans ?_ (by assumption)))))
      have zv0 : w.heap.size + 1 + 1 < v0.heap.size := by rw [hv0]; simp
      clear hv0
      go_wp2_with fail
      refine (isRatioWithin_any _ a b 1000000000000 1000000 (by omega) (by omega) (by omega)).mono ?_
      rintro e w1 ⟨rfl, n1⟩
      rw [G1.out]
      have l0 := n1.cell l0_v0
      have l1 := n1.cell l1_v0
      have m0 := n1.cell m0_v0
      have m1 := n1.cell m1_v0
      obtain ⟨r0, r1, y0, y1⟩ := pair_kept n1 ⟨r0_v0, r1_v0, zr0_v0, zr1_v0⟩
      have N1 := Lib.hid (N0.out.trans n1)
      clear n1 l0_v0 l1_v0 m0_v0 m1_v0 r0_v0 r1_v0 zr0_v0 zr1_v0
      go_wp2_with fail
      refine (isRatioWithin_any _ c d 1000000000000 1000000 (by omega) (by omega) (by omega)).mono ?_
      rintro e w2 ⟨rfl, n2⟩
      rw [G2.out]
      replace l0 := n2.cell l0
      replace l1 := n2.cell l1
      replace m0 := n2.cell m0
      replace m1 := n2.cell m1
      obtain ⟨r0, r1, y0, y1⟩ := pair_kept n2 ⟨r0, r1, y0, y1⟩
      have N2 := Lib.hid (N1.out.trans n2)
      clear n2
      go_wp2_with fail
      refine (plus_any _ a b c d (by omega) (by omega) (by omega) (by omega) (by omega) (by omega)).mono ?_
      clear l0 l1 m0 m1
      rintro e w5 ⟨rfl, n5⟩
      rw [HS.out]
      obtain ⟨r0, r1, y0, y1⟩ := pair_kept n5 ⟨r0, r1, y0, y1⟩
      have N5 := Lib.hid ((N2.out).trans n5)
      clear n5
      go_upto_region 4 with fail
      obtain ⟨w6, hw6⟩ : ∃ xx : World, xx = w5.alloc (.cells #[.int .i64 s1, .int .i64 s2] 29) := ⟨_, rfl⟩
      rw [← hw6]
      have t0 : w6.cell? ⟨w5.heap.size, 0, none⟩ = some (.int .i64 s1) := by rw [hw6]; simp [go_sem]
      have t1 : w6.cell? ⟨w5.heap.size, 1, none⟩ = some (.int .i64 s2) := by rw [hw6]; simp [go_sem]
      have M6 := Lib.hid (show New w5 w6 by rw [hw6]; exact (by repeat (first | with_reducible exact New.refl _ | with_reducible assumption | refine New.drewN ?_ _ | refine New.drew ?_ | refine New.alloc ?_ _ | refine New.setCell ?_ (by first | omega | (simp; omega) | (simp; done)) _ | (refine New.trans ?_ (by assumption)))))
      clear hw6
      have zr : w.heap.size + 1 + 1 < w5.heap.size := World.block_lt_of_cell? _ _ r0
      obtain ⟨r0, r1, y0, y1⟩ := pair_kept M6.out ⟨r0, r1, y0, y1⟩
      have N6 := Lib.hid (N5.out.trans M6.out)
      go_wp2_with fail
      refine (isRatioWithin_any _ s1 s2 1000000000000 1000000 (by omega) (by omega) (by omega)).mono ?_
      rintro e w7 ⟨rfl, n7⟩
      replace t0 := n7.cell t0
      replace t1 := n7.cell t1
      obtain ⟨r0, r1, y0, y1⟩ := pair_kept n7 ⟨r0, r1, y0, y1⟩
      have N7 := Lib.hid (N6.out.trans n7)
      clear n7
      by_cases g3 : gdR s1 s2 = true
      · have WB := Lib.hid (show arB a b c d = true by rw [WF.out, g3])
        have WM := Lib.hid (show arM a b c d = (s1, s2) by rw [arM_yes WB.out, WS.out])
        rw [show goodR 1000000000000 1000000 s1 s2 = true from g3]
        go_wp2
        refine bodyPost_ret (v := .tuple #[ratV (s1, s2), .bool true]) (by simp [results, Try.results44, go_sem, r0, r1]) rfl ⟨by rw [WM.out, WB.out], ?_⟩
        have := N7.out
        (repeat (first | with_reducible exact New.refl _ | with_reducible assumption | refine New.drewN ?_ _ | refine New.drew ?_ | refine New.alloc ?_ _ | refine New.setCell ?_ (by first | omega | (simp; omega) | (simp; done)) _ | (refine New.trans ?_ (by assumption))))
      · have g3f := bool_no g3
        have WB := Lib.hid (show arB a b c d = false by rw [WF.out, g3f])
        have WM := Lib.hid (arM_no WB.out)
        rw [show goodR 1000000000000 1000000 s1 s2 = false from g3f]
        go_wp2
        refine bodyPost_ret (v := .tuple #[ratV (0, 0), .bool false]) (by simp [results, Try.results44, go_sem, r0, r1]) rfl ⟨by rw [WM.out, WB.out], ?_⟩
        have := N7.out
        (repeat (first | with_reducible exact New.refl _ | with_reducible assumption | refine New.drewN ?_ _ | refine New.drew ?_ | refine New.alloc ?_ _ | refine New.setCell ?_ (by first | omega | (simp; omega) | (simp; done)) _ | (refine New.trans ?_ (by assumption))))
    · have g2f := bool_no g2
      have G2 := Lib.hid (show goodR 1000000000000 1000000 c d = false from g2f)
      have WB := Lib.hid (show arB a b c d = false by unfold arB; rw [g1, g2f]; rfl)
      have WM := Lib.hid (arM_no WB.out)
      clear g1 g2 g2f
      go_enter Try.func44, Try.ntmps44
      go_upto_region 1 with fail
      obtain ⟨v0, hv0⟩ : ∃ xx : World, xx = (((w.alloc (.cells #[.int .i64 a, .int .i64 b] 29)).alloc (.cells #[.int .i64 c, .int .i64 d] 29)).alloc (.cells #[.int .i64 0, .int .i64 0] 29)) := ⟨_, rfl⟩
      rw [← hv0]
      have l0_v0 : v0.cell? ⟨w.heap.size, 0, none⟩ = some (.int .i64 a) := by rw [hv0]; simp [go_sem]
      have l1_v0 : v0.cell? ⟨w.heap.size, 1, none⟩ = some (.int .i64 b) := by rw [hv0]; simp [go_sem]
      have m0_v0 : v0.cell? ⟨w.heap.size + 1, 0, none⟩ = some (.int .i64 c) := by rw [hv0]; simp [go_sem]
      have m1_v0 : v0.cell? ⟨w.heap.size + 1, 1, none⟩ = some (.int .i64 d) := by rw [hv0]; simp [go_sem]
      have r0_v0 : v0.cell? ⟨w.heap.size + 1 + 1, 0, none⟩ = some (.int .i64 0) := by rw [hv0]; simp [go_sem]
      have zr0_v0 : v0.frozen? ⟨w.heap.size + 1 + 1, 0, none⟩ = false := by rw [hv0]; simp [go_sem]
      have r1_v0 : v0.cell? ⟨w.heap.size + 1 + 1, 1, none⟩ = some (.int .i64 0) := by rw [hv0]; simp [go_sem]
      have zr1_v0 : v0.frozen? ⟨w.heap.size + 1 + 1, 1, none⟩ = false := by rw [hv0]; simp [go_sem]
      have N0 := Lib.hid (show New w v0 by rw [hv0]; exact (by repeat (first | with_reducible exact New.refl _ | with_reducible assumption | refine New.drewN ?_ _ | refine New.drew ?_ | refine New.alloc ?_ _ | refine New.setCell ?_ (by first | omega | (simp; omega) | (simp; done)) _ | (refine New.trans ?_ (by assumption)))))
      have zv0 : w.heap.size + 1 + 1 < v0.heap.size := by rw [hv0]; simp
      clear hv0
      go_wp2_with fail
      refine (isRatioWithin_any _ a b 1000000000000 1000000 (by omega) (by omega) (by omega)).mono ?_
      rintro e w1 ⟨rfl, n1⟩
      rw [G1.out]
      have l0 := n1.cell l0_v0
      have l1 := n1.cell l1_v0
      have m0 := n1.cell m0_v0
      have m1 := n1.cell m1_v0
      obtain ⟨r0, r1, y0, y1⟩ := pair_kept n1 ⟨r0_v0, r1_v0, zr0_v0, zr1_v0⟩
      have N1 := Lib.hid (N0.out.trans n1)
      clear n1 l0_v0 l1_v0 m0_v0 m1_v0 r0_v0 r1_v0 zr0_v0 zr1_v0
      go_wp2_with fail
      refine (isRatioWithin_any _ c d 1000000000000 1000000 (by omega) (by omega) (by omega)).mono ?_
      rintro e w2 ⟨rfl, n2⟩
      rw [G2.out]
      replace l0 := n2.cell l0
      replace l1 := n2.cell l1
      replace m0 := n2.cell m0
      replace m1 := n2.cell m1
      obtain ⟨r0, r1, y0, y1⟩ := pair_kept n2 ⟨r0, r1, y0, y1⟩
      have N2 := Lib.hid (N1.out.trans n2)
      clear n2
      go_wp2
      refine bodyPost_ret (v := .tuple #[ratV (0, 0), .bool false]) (by simp [results, Try.results44, go_sem, r0, r1]) rfl ⟨by rw [WM.out, WB.out], ?_⟩
      have := N2.out
      (repeat (first | with_reducible exact New.refl _ | with_reducible assumption | refine New.drewN ?_ _ | refine New.drew ?_ | refine New.alloc ?_ _ | refine New.setCell ?_ (by first | omega | (simp; omega) | (simp; done)) _ | (refine New.trans ?_ (by assumption))))
  · have g1f := bool_no g1
    have G1 := Lib.hid (show goodR 1000000000000 1000000 a b = false from g1f)
    have WB := Lib.hid (show arB a b c d = false by unfold arB; rw [g1f]; rfl)
    have WM := Lib.hid (arM_no WB.out)
    clear g1 g1f
    go_enter Try.func44, Try.ntmps44
    go_upto_region 1 with fail
    obtain ⟨v0, hv0⟩ : ∃ xx : World, xx = (((w.alloc (.cells #[.int .i64 a, .int .i64 b] 29)).alloc (.cells #[.int .i64 c, .int .i64 d] 29)).alloc (.cells #[.int .i64 0, .int .i64 0] 29)) := ⟨_, rfl⟩
    rw [← hv0]
    have l0_v0 : v0.cell? ⟨w.heap.size, 0, none⟩ = some (.int .i64 a) := by rw [hv0]; simp [go_sem]
    have l1_v0 : v0.cell? ⟨w.heap.size, 1, none⟩ = some (.int .i64 b) := by rw [hv0]; simp [go_sem]
    have m0_v0 : v0.cell? ⟨w.heap.size + 1, 0, none⟩ = some (.int .i64 c) := by rw [hv0]; simp [go_sem]
    have m1_v0 : v0.cell? ⟨w.heap.size + 1, 1, none⟩ = some (.int .i64 d) := by rw [hv0]; simp [go_sem]
    have r0_v0 : v0.cell? ⟨w.heap.size + 1 + 1, 0, none⟩ = some (.int .i64 0) := by rw [hv0]; simp [go_sem]
    have zr0_v0 : v0.frozen? ⟨w.heap.size + 1 + 1, 0, none⟩ = false := by rw [hv0]; simp [go_sem]
    have r1_v0 : v0.cell? ⟨w.heap.size + 1 + 1, 1, none⟩ = some (.int .i64 0) := by rw [hv0]; simp [go_sem]
    have zr1_v0 : v0.frozen? ⟨w.heap.size + 1 + 1, 1, none⟩ = false := by rw [hv0]; simp [go_sem]
    have N0 := Lib.hid (show New w v0 by rw [hv0]; exact (by repeat (first | with_reducible exact New.refl _ | with_reducible assumption | refine New.drewN ?_ _ | refine New.drew ?_ | refine New.alloc ?_ _ | refine New.setCell ?_ (by first | omega | (simp; omega) | (simp; done)) _ | (refine New.trans ?_ (by assumption)))))
    have zv0 : w.heap.size + 1 + 1 < v0.heap.size := by rw [hv0]; simp
    clear hv0
    go_wp2_with fail
    refine (isRatioWithin_any _ a b 1000000000000 1000000 (by omega) (by omega) (by omega)).mono ?_
    rintro e w1 ⟨rfl, n1⟩
    rw [G1.out]
    have l0 := n1.cell l0_v0
    have l1 := n1.cell l1_v0
    have m0 := n1.cell m0_v0
    have m1 := n1.cell m1_v0
    obtain ⟨r0, r1, y0, y1⟩ := pair_kept n1 ⟨r0_v0, r1_v0, zr0_v0, zr1_v0⟩
    have N1 := Lib.hid (N0.out.trans n1)
    clear n1 l0_v0 l1_v0 m0_v0 m1_v0 r0_v0 r1_v0 zr0_v0 zr1_v0
    go_wp2
    refine bodyPost_ret (v := .tuple #[ratV (0, 0), .bool false]) (by simp [results, Try.results44, go_sem, r0, r1]) rfl ⟨by rw [WM.out, WB.out], ?_⟩
    have := N1.out
    (repeat (first | with_reducible exact New.refl _ | with_reducible assumption | refine New.drewN ?_ _ | refine New.drew ?_ | refine New.alloc ?_ _ | refine New.setCell ?_ (by first | omega | (simp; omega) | (simp; done)) _ | (refine New.trans ?_ (by assumption))))
end Go.Proofs.Ytklfelbolblgfaa
