/- PipeLevels: the model's and the program's. -/
import Derived.Test.YtkhniokfpmhonaaPip4
namespace Go.Proofs.Ytkhniokfpmhonaa
open Go.RowKit Go.IntWalk

def pl1 (A : Tk) (p : Int × Int) : Int × Int := red ((A.2.1 * A.1 + A.2.2) * p.2 - p.1) (A.1 * p.2)
def pl2 (A : Tk) (p : Int × Int) : Int × Int := red ((A.2.1 * A.1 + A.2.2) * p.2 + p.1) (A.1 * p.2)
def plM (A B : Tk) (h : Int) : List (Int × Int) := if pipeB A B h then [pl1 A (flR A B h), pl2 B (flR A B h)] else []
theorem plM_yes {A B : Tk} {h : Int} (k : pipeB A B h = true) : plM A B h = [pl1 A (flR A B h), pl2 B (flR A B h)] := by unfold plM; rw [if_pos k]
theorem plM_no {A B : Tk} {h : Int} (k : pipeB A B h = false) : plM A B h = [] := by unfold plM; rw [k]; rfl
theorem plM_small (A B : Tk) (h : Int) : (plM A B h).length ≤ 1048576 := by unfold plM; split <;> simp
theorem pl1_eq {A : Tk} (hA : TkOk A) {p : Int × Int} (hp : 0 < p.2) {L O : Int × Int} (hL : lvR A = L) (hO : red p.1 (p.2 * A.1) = O) : red (L.1 * O.2 - O.1 * L.2) (L.2 * O.2) = pl1 A p := by
  have a1 := hA.a1
  have hpa : 0 < p.2 * A.1 := Int.mul_pos hp (by omega)
  have c1 := lv_cross A
  have c2 := red_cross p.1 (p.2 * A.1)
  have d1 := lv_pos hA
  have d2 := red_pos (n := p.1) hpa
  rw [hL] at c1 d1
  rw [hO] at c2 d2
  unfold pl1
  refine red_eq (Int.mul_pos d1 d2) (Int.mul_pos (by omega) hp) ?_
  have hN : numT A = A.2.1 * A.1 + A.2.2 := by unfold numT; rw [Int.mul_comm]
  rw [← hN]
  calc (L.1 * O.2 - O.1 * L.2) * (A.1 * p.2) = (L.1 * A.1) * O.2 * p.2 - (O.1 * (p.2 * A.1)) * L.2 := by grind
    _ = (numT A * L.2) * O.2 * p.2 - (p.1 * O.2) * L.2 := by rw [c1, c2]
    _ = (numT A * p.2 - p.1) * (L.2 * O.2) := by grind
theorem pl2_eq {A : Tk} (hA : TkOk A) {p : Int × Int} (hp : 0 < p.2) {L O : Int × Int} (hL : lvR A = L) (hO : red p.1 (p.2 * A.1) = O) : red (L.1 * O.2 + O.1 * L.2) (L.2 * O.2) = pl2 A p := by
  have a1 := hA.a1
  have hpa : 0 < p.2 * A.1 := Int.mul_pos hp (by omega)
  have c1 := lv_cross A
  have c2 := red_cross p.1 (p.2 * A.1)
  have d1 := lv_pos hA
  have d2 := red_pos (n := p.1) hpa
  rw [hL] at c1 d1
  rw [hO] at c2 d2
  unfold pl2
  refine red_eq (Int.mul_pos d1 d2) (Int.mul_pos (by omega) hp) ?_
  have hN : numT A = A.2.1 * A.1 + A.2.2 := by unfold numT; rw [Int.mul_comm]
  rw [← hN]
  calc (L.1 * O.2 + O.1 * L.2) * (A.1 * p.2) = (L.1 * A.1) * O.2 * p.2 + (O.1 * (p.2 * A.1)) * L.2 := by grind
    _ = (numT A * L.2) * O.2 * p.2 + (p.1 * O.2) * L.2 := by rw [c1, c2]
    _ = (numT A * p.2 + p.1) * (L.2 * O.2) := by grind
/-- A divided flow: its bounds. -/
theorem ov_bd {p : Int × Int} (hp : ThrBd p) {a : Int} (a1 : 1 ≤ a) (a2 : a ≤ 50) : 0 < p.2 * a ∧ p.2 * a ≤ 50000 ∧ -100000000 ≤ (red p.1 (p.2 * a)).1 ∧ (red p.1 (p.2 * a)).1 ≤ 100000000 ∧ 1 ≤ (red p.1 (p.2 * a)).2 ∧ (red p.1 (p.2 * a)).2 ≤ 50000 ∧ Int.gcd (red p.1 (p.2 * a)).1 (red p.1 (p.2 * a)).2 = 1 := by
  have h0 := hp.n0; have h1 := hp.n1; have h2 := hp.d0; have h3 := hp.d1
  have hpa : 0 < p.2 * a := Int.mul_pos (by omega) (by omega)
  have hm := mul_bd (show 0 ≤ p.2 by omega) h3 (show 0 ≤ a by omega) a2
  have hr := red_le (n := p.1) hpa
  have hq := red_pos (n := p.1) hpa
  have hc := red_cop (n := p.1) hpa
  by_cases hn : 0 ≤ p.1
  · have := hr.2.1 hn
    exact ⟨hpa, by omega, by omega, by omega, by omega, by omega, hc⟩
  · have := hr.2.2 (by omega)
    exact ⟨hpa, by omega, by omega, by omega, by omega, by omega, hc⟩

theorem two_own {w : World} {lo b : Nat} {p1 p2 q1 q2 : Int} (hlo : lo ≤ b) (h : w.heap[b]? = some (.cells #[.int .i64 p1, .int .i64 p2, .int .i64 q1, .int .i64 q2] 25 (0, 0))) :
    OwnRatio w lo w.heap.size (some ⟨b, 0, none⟩) 2 2 [(p1, p2), (q1, q2)] := by
  have hb : b < w.heap.size := (Array.getElem?_eq_some_iff.1 h).1
  refine ⟨rfl, by omega, by omega, .inr ⟨b, fun j => (#[.int .i64 p1, .int .i64 p2, .int .i64 q1, .int .i64 q2] : Array Value)[j]?.getD undef, rfl, hlo, hb, ⟨_, h, rfl, fun i hi => ?_⟩, fun j hj => ?_⟩⟩
  · have hi : i < 4 := hi
    have : i = 0 ∨ i = 1 ∨ i = 2 ∨ i = 3 := by omega
    rcases this with rfl | rfl | rfl | rfl <;> rfl
  · have : j = 0 ∨ j = 1 := by omega
    rcases this with rfl | rfl
    · exact ⟨rfl, rfl⟩
    · exact ⟨rfl, rfl⟩

set_option maxRecDepth 100000 in
set_option maxHeartbeats 4000000 in
theorem sPipeLevels_any (w : World) (a f u b g v h : Int) :
    Calls Try.prog 30 #[tkV a f u, tkV b g v, .int .i64 h] w fun e w' => ∃ oa on oc, e = .returned (.tuple #[.slice oa on oc, .bool (pipeB (a, f, u) (b, g, v) h)]) ∧ OwnRatio w' w.heap.size w'.heap.size oa on oc (plM (a, f, u) (b, g, v) h) ∧ New w w' := by
  by_cases hk : pipeB (a, f, u) (b, g, v) h = true
  · have HM := Lib.hid (plM_yes hk)
    have HB := Lib.hid hk
    have OK := Lib.hid (pipeB_iff.1 hk); clear hk
    have OA := Lib.hid OK.out.a
    have OB := Lib.hid OK.out.b
    have a1 := OA.out.a1; have a2 := OA.out.a2; have f1 := OA.out.f1; have f2 := OA.out.f2; have wu1 := OA.out.w1; have wu2 := OA.out.w2
    have b1 := OB.out.a1; have b2 := OB.out.a2; have g1 := OB.out.f1; have g2 := OB.out.f2; have v1 := OB.out.w1; have v2 := OB.out.w2
    simp only at a1 a2 f1 f2 wu1 wu2 b1 b2 g1 g2 v1 v2
    have TB := Lib.hid (fl_bd OK.out)
    go_enter Try.func30, Try.ntmps30
    go_wp2_with fail
    refine (lePipe_any _ _ _ _ _ _ _ _).mono ?_
    rintro e w1 ⟨rfl, n1⟩
    rw [HB.out]
    have p0 : w1.cell? ⟨w.heap.size, 0, none⟩ = some (.int .i64 a) := n1.cell (by simp [go_sem])
    have p1 : w1.cell? ⟨w.heap.size, 1, none⟩ = some (.int .i64 f) := n1.cell (by simp [go_sem])
    have p2 : w1.cell? ⟨w.heap.size, 2, none⟩ = some (.int .i64 u) := n1.cell (by simp [go_sem])
    have q0 : w1.cell? ⟨w.heap.size + 1, 0, none⟩ = some (.int .i64 b) := n1.cell (by simp [go_sem])
    have q1 : w1.cell? ⟨w.heap.size + 1, 1, none⟩ = some (.int .i64 g) := n1.cell (by simp [go_sem])
    have q2 : w1.cell? ⟨w.heap.size + 1, 2, none⟩ = some (.int .i64 v) := n1.cell (by simp [go_sem])
    have N1 := Lib.hid (show New w w1 from New.trans (by repeat (first | with_reducible exact New.refl _ | with_reducible assumption | refine New.drewN ?_ _ | refine New.drew ?_ | refine New.alloc ?_ _ | refine New.setCell ?_ (by first | omega | (simp; omega) | (simp; done)) _ | (refine New.trans ?_ (by assumption)))) n1); clear n1
    go_wp2_with fail
    refine (leFlow_any _ _ _ _ _ _ _ _ OK.out).mono ?_
    rintro e w2 ⟨rfl, n2⟩
    replace p0 := n2.cell p0
    replace p1 := n2.cell p1
    replace p2 := n2.cell p2
    replace q0 := n2.cell q0
    replace q1 := n2.cell q1
    replace q2 := n2.cell q2
    have N2 := Lib.hid (N1.out.trans n2); clear n2
    have z2 := N2.out.size
    have zw2 : w.heap.size + 1 < w2.heap.size := World.block_lt_of_cell? _ _ q0
    obtain ⟨P, hP⟩ : ∃ p, p = flR (a, f, u) (b, g, v) h := ⟨_, rfl⟩
    rw [← hP]
    rw [← hP] at HM TB
    clear hP
    obtain ⟨p, q⟩ := P
    have t1 := TB.out.n0; have t2 := TB.out.n1; have t3 := TB.out.d0; have t4 := TB.out.d1
    simp only at t1 t2 t3 t4
    go_upto_region 4 with fail
    obtain ⟨v0, hv0⟩ : ∃ xx : World, xx = w2.alloc (.cells #[.int .i64 p, .int .i64 q] 25) := ⟨_, rfl⟩
    rw [← hv0]
    have t0_v0 : v0.cell? ⟨w2.heap.size, 0, none⟩ = some (.int .i64 p) := by rw [hv0]; simp [go_sem]
    have t1_v0 : v0.cell? ⟨w2.heap.size, 1, none⟩ = some (.int .i64 q) := by rw [hv0]; simp [go_sem]
    have K0 := Lib.hid (show New w2 v0 by rw [hv0]; exact (by repeat (first | with_reducible exact New.refl _ | with_reducible assumption | refine New.drewN ?_ _ | refine New.drew ?_ | refine New.alloc ?_ _ | refine New.setCell ?_ (by first | omega | (simp; omega) | (simp; done)) _ | (refine New.trans ?_ (by assumption)))))
    clear hv0
    have a0_v0 := K0.out.cell p0; have a1_v0 := K0.out.cell p1; have a2_v0 := K0.out.cell p2
    have b0_v0 := K0.out.cell q0; have b1_v0 := K0.out.cell q1; have b2_v0 := K0.out.cell q2
    clear p0 p1 p2 q0 q1 q2
    have N3 := Lib.hid (N2.out.trans K0.out)
    have zt : w2.heap.size < v0.heap.size := World.block_lt_of_cell? _ _ t0_v0
    have m1 := mul_bd f1 f2 (show 0 ≤ a by omega) a2
    have m2 := mul_bd g1 g2 (show 0 ≤ b by omega) b2
    obtain ⟨m1a, m1b⟩ := m1
    obtain ⟨m2a, m2b⟩ := m2
    have m3 := mul_bd (show 0 ≤ f * a + u by omega) (show f * a + u ≤ 15000 by omega) (show 0 ≤ q by omega) t4
    have m4 := mul_bd (show 0 ≤ g * b + v by omega) (show g * b + v ≤ 15000 by omega) (show 0 ≤ q by omega) t4
    have m5 := mul_bd (show 0 ≤ a by omega) a2 (show 0 ≤ q by omega) t4
    have m6 := mul_bd (show 0 ≤ b by omega) b2 (show 0 ≤ q by omega) t4
    obtain ⟨m3a, m3b⟩ := m3
    obtain ⟨m4a, m4b⟩ := m4
    obtain ⟨m5a, m5b⟩ := m5
    obtain ⟨m6a, m6b⟩ := m6
    have m7 : 0 < a * q := Int.mul_pos (by omega) (by omega)
    have m8 : 0 < b * q := Int.mul_pos (by omega) (by omega)
    obtain ⟨x, hx⟩ : ∃ x, x = pl1 (a, f, u) (p, q) := ⟨_, rfl⟩
    obtain ⟨y, hy⟩ : ∃ y, y = pl2 (b, g, v) (p, q) := ⟨_, rfl⟩
    have EX := Lib.hid (show red ((f * a + u) * q - p) (a * q) = x from hx.symm)
    have EY := Lib.hid (show red ((g * b + v) * q + p) (b * q) = y from hy.symm)
    rw [← hx, ← hy] at HM
    clear hx hy
    obtain ⟨x1, x2⟩ := x
    obtain ⟨y1, y2⟩ := y
    go_wp2_with fail
    refine (leRatio_any _ ((f * a + u) * q - p) (a * q) m7 (by omega) (by omega) (by omega)).mono ?_
    rintro e w4 ⟨rfl, n4⟩
    rw [EX.out]
    have c0 := n4.cell b0_v0; have c1 := n4.cell b1_v0; have c2 := n4.cell b2_v0
    have d0 := n4.cell t0_v0; have d1 := n4.cell t1_v0
    have N4 := Lib.hid (N3.out.trans n4)
    have z4 := n4.size; clear n4
    go_upto_region 5 with fail
    obtain ⟨w5, hw5⟩ : ∃ xx : World, xx = w4.alloc (.cells #[.int .i64 x1, .int .i64 x2] 25) := ⟨_, rfl⟩
    rw [← hw5]
    have x0_5 : w5.cell? ⟨w4.heap.size, 0, none⟩ = some (.int .i64 x1) := by rw [hw5]; simp [go_sem]
    have x1_5 : w5.cell? ⟨w4.heap.size, 1, none⟩ = some (.int .i64 x2) := by rw [hw5]; simp [go_sem]
    have K5 := Lib.hid (show New w4 w5 by rw [hw5]; exact (by repeat (first | with_reducible exact New.refl _ | with_reducible assumption | refine New.drewN ?_ _ | refine New.drew ?_ | refine New.alloc ?_ _ | refine New.setCell ?_ (by first | omega | (simp; omega) | (simp; done)) _ | (refine New.trans ?_ (by assumption)))))
    clear hw5
    replace c0 := K5.out.cell c0; replace c1 := K5.out.cell c1; replace c2 := K5.out.cell c2
    replace d0 := K5.out.cell d0; replace d1 := K5.out.cell d1
    go_wp2_with fail
    refine (leRatio_any _ ((g * b + v) * q + p) (b * q) m8 (by omega) (by omega) (by omega)).mono ?_
    rintro e w6 ⟨rfl, n6⟩
    rw [EY.out]
    have x0_6 := n6.cell x0_5; have x1_6 := n6.cell x1_5
    have N6 := Lib.hid (N4.out.trans (K5.out.trans n6)); clear n6
    go_upto_region 6 with fail
    obtain ⟨w7, hw7⟩ : ∃ xx : World, xx = w6.alloc (.cells #[.int .i64 y1, .int .i64 y2] 25) := ⟨_, rfl⟩
    rw [← hw7]
    have y0_7 : w7.cell? ⟨w6.heap.size, 0, none⟩ = some (.int .i64 y1) := by rw [hw7]; simp [go_sem]
    have y1_7 : w7.cell? ⟨w6.heap.size, 1, none⟩ = some (.int .i64 y2) := by rw [hw7]; simp [go_sem]
    have K7 := Lib.hid (show New w6 w7 by rw [hw7]; exact (by repeat (first | with_reducible exact New.refl _ | with_reducible assumption | refine New.drewN ?_ _ | refine New.drew ?_ | refine New.alloc ?_ _ | refine New.setCell ?_ (by first | omega | (simp; omega) | (simp; done)) _ | (refine New.trans ?_ (by assumption)))))
    clear hw7
    have x0_7 := K7.out.cell x0_6; have x1_7 := K7.out.cell x1_6
    have N7 := Lib.hid (N6.out.trans K7.out)
    go_wp2
    go_ret2
    rw [HM.out, HB.out]
    refine ⟨_, _, _, rfl, two_own N7.out.size (heap_alloc_new _ _), ?_⟩
    have := N7.out
    (repeat (first | with_reducible exact New.refl _ | with_reducible assumption | refine New.drewN ?_ _ | refine New.drew ?_ | refine New.alloc ?_ _ | refine New.setCell ?_ (by first | omega | (simp; omega) | (simp; done)) _ | (refine New.trans ?_ (by assumption))))
  · have hf := bool_no hk
    have HM := Lib.hid (plM_no hf)
    have HB := Lib.hid hf; clear hk hf
    go_enter Try.func30, Try.ntmps30
    go_wp2_with fail
    refine (lePipe_any _ _ _ _ _ _ _ _).mono ?_
    rintro e w1 ⟨rfl, n1⟩
    rw [HB.out]
    have N1 := Lib.hid (show New w w1 from New.trans (by repeat (first | with_reducible exact New.refl _ | with_reducible assumption | refine New.drewN ?_ _ | refine New.drew ?_ | refine New.alloc ?_ _ | refine New.setCell ?_ (by first | omega | (simp; omega) | (simp; done)) _ | (refine New.trans ?_ (by assumption)))) n1); clear n1
    go_wp2
    go_ret2
    rw [HM.out, HB.out]
    exact ⟨_, _, _, rfl, OwnRatio.nil _ _ _, N1.out⟩

set_option maxRecDepth 100000 in
set_option maxHeartbeats 4000000 in
theorem iPipeLevels_any (w : World) (a f u b g v h : Int) :
    Calls Try.prog 32 #[tkV a f u, tkV b g v, .int .i64 h] w fun e w' => ∃ oa on oc, e = .returned (.tuple #[.slice oa on oc, .bool (pipeB (a, f, u) (b, g, v) h)]) ∧ OwnRatio w' w.heap.size w'.heap.size oa on oc (plM (a, f, u) (b, g, v) h) ∧ New w w' := by
  by_cases hk : pipeB (a, f, u) (b, g, v) h = true
  · have HM := Lib.hid (plM_yes hk)
    have HB := Lib.hid hk
    have OK := Lib.hid (pipeB_iff.1 hk); clear hk
    have OA := Lib.hid OK.out.a
    have OB := Lib.hid OK.out.b
    have a1 := OA.out.a1; have a2 := OA.out.a2; have f1 := OA.out.f1; have f2 := OA.out.f2; have wu1 := OA.out.w1; have wu2 := OA.out.w2
    have b1 := OB.out.a1; have b2 := OB.out.a2; have g1 := OB.out.f1; have g2 := OB.out.f2; have v1 := OB.out.w1; have v2 := OB.out.w2
    simp only at a1 a2 f1 f2 wu1 wu2 b1 b2 g1 g2 v1 v2
    have TB := Lib.hid (fl_bd OK.out)
    go_enter Try.func32, Try.ntmps32
    go_wp2_with fail
    refine (isPipe_any _ _ _ _ _ _ _ _).mono ?_
    rintro e w1 ⟨rfl, n1⟩
    rw [HB.out]
    have p0 : w1.cell? ⟨w.heap.size, 0, none⟩ = some (.int .i64 a) := n1.cell (by simp [go_sem])
    have p1 : w1.cell? ⟨w.heap.size, 1, none⟩ = some (.int .i64 f) := n1.cell (by simp [go_sem])
    have p2 : w1.cell? ⟨w.heap.size, 2, none⟩ = some (.int .i64 u) := n1.cell (by simp [go_sem])
    have q0 : w1.cell? ⟨w.heap.size + 1, 0, none⟩ = some (.int .i64 b) := n1.cell (by simp [go_sem])
    have q1 : w1.cell? ⟨w.heap.size + 1, 1, none⟩ = some (.int .i64 g) := n1.cell (by simp [go_sem])
    have q2 : w1.cell? ⟨w.heap.size + 1, 2, none⟩ = some (.int .i64 v) := n1.cell (by simp [go_sem])
    have N1 := Lib.hid (show New w w1 from New.trans (by repeat (first | with_reducible exact New.refl _ | with_reducible assumption | refine New.drewN ?_ _ | refine New.drew ?_ | refine New.alloc ?_ _ | refine New.setCell ?_ (by first | omega | (simp; omega) | (simp; done)) _ | (refine New.trans ?_ (by assumption)))) n1); clear n1
    go_wp2_with fail
    refine (pipeFlow_any _ _ _ _ _ _ _ _ OK.out).mono ?_
    rintro e w2 ⟨rfl, n2⟩
    replace p0 := n2.cell p0
    replace p1 := n2.cell p1
    replace p2 := n2.cell p2
    replace q0 := n2.cell q0
    replace q1 := n2.cell q1
    replace q2 := n2.cell q2
    have N2 := Lib.hid (N1.out.trans n2); clear n2
    have z2 := N2.out.size
    have zw2 : w.heap.size + 1 < w2.heap.size := World.block_lt_of_cell? _ _ q0
    obtain ⟨P, hP⟩ : ∃ p, p = flR (a, f, u) (b, g, v) h := ⟨_, rfl⟩
    rw [← hP]
    rw [← hP] at HM TB
    clear hP
    obtain ⟨p, q⟩ := P
    have t1 := TB.out.n0; have t2 := TB.out.n1; have t3 := TB.out.d0; have t4 := TB.out.d1
    simp only at t1 t2 t3 t4
    go_upto_region 4 with fail
    obtain ⟨v0, hv0⟩ : ∃ xx : World, xx = w2.alloc (.cells #[.int .i64 p, .int .i64 q] 25) := ⟨_, rfl⟩
    rw [← hv0]
    have t0_v0 : v0.cell? ⟨w2.heap.size, 0, none⟩ = some (.int .i64 p) := by rw [hv0]; simp [go_sem]
    have t1_v0 : v0.cell? ⟨w2.heap.size, 1, none⟩ = some (.int .i64 q) := by rw [hv0]; simp [go_sem]
    have K0 := Lib.hid (show New w2 v0 by rw [hv0]; exact (by repeat (first | with_reducible exact New.refl _ | with_reducible assumption | refine New.drewN ?_ _ | refine New.drew ?_ | refine New.alloc ?_ _ | refine New.setCell ?_ (by first | omega | (simp; omega) | (simp; done)) _ | (refine New.trans ?_ (by assumption)))))
    clear hv0
    have a0_v0 := K0.out.cell p0; have a1_v0 := K0.out.cell p1; have a2_v0 := K0.out.cell p2
    have b0_v0 := K0.out.cell q0; have b1_v0 := K0.out.cell q1; have b2_v0 := K0.out.cell q2
    clear p0 p1 p2 q0 q1 q2
    have N3 := Lib.hid (N2.out.trans K0.out)
    have zt : w2.heap.size < v0.heap.size := World.block_lt_of_cell? _ _ t0_v0
    have la := lvR_bd OA.out
    have lb := lvR_bd OB.out
    have oa := ov_bd TB.out a1 a2
    have ob := ov_bd TB.out b1 b2
    simp only at oa ob
    obtain ⟨L, hL⟩ : ∃ L, L = lvR (a, f, u) := ⟨_, rfl⟩
    obtain ⟨M, hM⟩ : ∃ M, M = lvR (b, g, v) := ⟨_, rfl⟩
    obtain ⟨O, hO⟩ : ∃ O, O = red p (q * a) := ⟨_, rfl⟩
    obtain ⟨S, hS⟩ : ∃ S, S = red p (q * b) := ⟨_, rfl⟩
    have EL := Lib.hid (show red (a * f + u) a = L from hL.symm)
    have EM := Lib.hid (show red (b * g + v) b = M from hM.symm)
    have EO := Lib.hid (show red p (q * a) = O from hO.symm)
    have ES := Lib.hid (show red p (q * b) = S from hS.symm)
    have X1 := Lib.hid (pl1_eq (A := (a, f, u)) (p := (p, q)) OA.out (by simp only; omega) hL.symm hO.symm)
    have X2 := Lib.hid (pl2_eq (A := (b, g, v)) (p := (p, q)) OB.out (by simp only; omega) hM.symm hS.symm)
    rw [← hL] at la
    rw [← hM] at lb
    rw [← hO] at oa
    rw [← hS] at ob
    clear hL hM hO hS
    obtain ⟨x, hx⟩ : ∃ x, x = pl1 (a, f, u) (p, q) := ⟨_, rfl⟩
    obtain ⟨y, hy⟩ : ∃ y, y = pl2 (b, g, v) (p, q) := ⟨_, rfl⟩
    rw [← hx] at X1 HM
    rw [← hy] at X2 HM
    clear hx hy
    obtain ⟨l1, l2⟩ := L
    obtain ⟨m1, m2⟩ := M
    obtain ⟨o1, o2⟩ := O
    obtain ⟨s1, s2⟩ := S
    obtain ⟨x1, x2⟩ := x
    obtain ⟨y1, y2⟩ := y
    simp only at la lb oa ob X1 X2
    obtain ⟨la1, la2, la3, la4⟩ := la
    obtain ⟨lb1, lb2, lb3, lb4⟩ := lb
    obtain ⟨oa1, oa2, oa3, oa4, oa5, oa6, oa7⟩ := oa
    obtain ⟨ob1, ob2, ob3, ob4, ob5, ob6, ob7⟩ := ob
    have OC := Lib.hid oa7; clear oa7 ob7
    have k1 := mul_bd la1 la2 (show 0 ≤ o2 by omega) oa6
    have k2 := mul_bd lb1 lb2 (show 0 ≤ s2 by omega) ob6
    have k3 : -10000000000 ≤ o1 * l2 ∧ o1 * l2 ≤ 10000000000 := by
      have := mul_bd (show 0 ≤ o1 + 100000000 by omega) (show o1 + 100000000 ≤ 200000000 by omega) (show 0 ≤ l2 by omega) la4
      rw [Int.add_mul] at this
      omega
    have k4 : -10000000000 ≤ s1 * m2 ∧ s1 * m2 ≤ 10000000000 := by
      have := mul_bd (show 0 ≤ s1 + 100000000 by omega) (show s1 + 100000000 ≤ 200000000 by omega) (show 0 ≤ m2 by omega) lb4
      rw [Int.add_mul] at this
      omega
    have k5 := mul_bd (show 0 ≤ l2 by omega) la4 (show 0 ≤ o2 by omega) oa6
    have k6 := mul_bd (show 0 ≤ m2 by omega) lb4 (show 0 ≤ s2 by omega) ob6
    have k7 : 0 < l2 * o2 := Int.mul_pos (by omega) (by omega)
    have k8 : 0 < m2 * s2 := Int.mul_pos (by omega) (by omega)
    obtain ⟨k1a, k1b⟩ := k1
    obtain ⟨k2a, k2b⟩ := k2
    obtain ⟨k3a, k3b⟩ := k3
    obtain ⟨k4a, k4b⟩ := k4
    obtain ⟨k5a, k5b⟩ := k5
    obtain ⟨k6a, k6b⟩ := k6
    go_region_held3 (fun w' => w'.cell? ⟨w.heap.size, 0, none⟩ = some (.int .i64 a) ∧ w'.cell? ⟨w.heap.size, 1, none⟩ = some (.int .i64 f) ∧ w'.cell? ⟨w.heap.size, 2, none⟩ = some (.int .i64 u) ∧ w'.cell? ⟨w.heap.size + 1, 0, none⟩ = some (.int .i64 b) ∧ w'.cell? ⟨w.heap.size + 1, 1, none⟩ = some (.int .i64 g) ∧ w'.cell? ⟨w.heap.size + 1, 2, none⟩ = some (.int .i64 v) ∧ w'.cell? ⟨w2.heap.size, 0, none⟩ = some (.int .i64 p) ∧ w'.cell? ⟨w2.heap.size, 1, none⟩ = some (.int .i64 q))
      (first | with_reducible exact ⟨a0_v0, a1_v0, a2_v0, b0_v0, b1_v0, b2_v0, t0_v0, t1_v0⟩ | with_reducible exact ⟨a0_u1, a1_u1, a2_u1, b0_u1, b1_u1, b2_u1, t0_u1, t1_u1⟩ | with_reducible exact ⟨a0_u2, a1_u2, a2_u2, b0_u2, b1_u2, b2_u2, t0_u2, t1_u2⟩ | with_reducible exact ⟨a0_u3, a1_u3, a2_u3, b0_u3, b1_u3, b2_u3, t0_u3, t1_u3⟩ | with_reducible exact ⟨a0_u4, a1_u4, a2_u4, b0_u4, b1_u4, b2_u4, t0_u4, t1_u4⟩ | with_reducible exact ⟨a0_u5, a1_u5, a2_u5, b0_u5, b1_u5, b2_u5, t0_u5, t1_u5⟩ | with_reducible exact ⟨a0_u6, a1_u6, a2_u6, b0_u6, b1_u6, b2_u6, t0_u6, t1_u6⟩ | with_reducible exact ⟨World.cell_kept a0_u6, World.cell_kept a1_u6, World.cell_kept a2_u6, World.cell_kept b0_u6, World.cell_kept b1_u6, World.cell_kept b2_u6, World.cell_kept t0_u6, World.cell_kept t1_u6⟩ | exact ⟨a0_v0, a1_v0, a2_v0, b0_v0, b1_v0, b2_v0, t0_v0, t1_v0⟩ | fail)
      (first
        | (go_at_call_of 58 (Value.agg #[.int .i64 a, .int .i64 f, .int .i64 u]); refine (level_any _ a f u OA.out).mono ?_; rintro e u1 ⟨rfl, n_u1⟩; (try replace n_u1 := New.undrew n_u1); have a0_u1 : u1.cell? ⟨w.heap.size, 0, none⟩ = some (.int .i64 a) := n_u1.cell a0_v0; have a1_u1 : u1.cell? ⟨w.heap.size, 1, none⟩ = some (.int .i64 f) := n_u1.cell a1_v0; have a2_u1 : u1.cell? ⟨w.heap.size, 2, none⟩ = some (.int .i64 u) := n_u1.cell a2_v0; have b0_u1 : u1.cell? ⟨w.heap.size + 1, 0, none⟩ = some (.int .i64 b) := n_u1.cell b0_v0; have b1_u1 : u1.cell? ⟨w.heap.size + 1, 1, none⟩ = some (.int .i64 g) := n_u1.cell b1_v0; have b2_u1 : u1.cell? ⟨w.heap.size + 1, 2, none⟩ = some (.int .i64 v) := n_u1.cell b2_v0; have t0_u1 : u1.cell? ⟨w2.heap.size, 0, none⟩ = some (.int .i64 p) := n_u1.cell t0_v0; have t1_u1 : u1.cell? ⟨w2.heap.size, 1, none⟩ = some (.int .i64 q) := n_u1.cell t1_v0; rw [EL.out]; skip)
        | (go_at_call 59; with_reducible refine (over_any _ p q a oa1 (by omega) (by omega) (by omega)).mono ?_; rintro e u2 ⟨rfl, n_u2⟩; (try replace n_u2 := New.undrew n_u2); have a0_u2 : u2.cell? ⟨w.heap.size, 0, none⟩ = some (.int .i64 a) := n_u2.cell a0_u1; have a1_u2 : u2.cell? ⟨w.heap.size, 1, none⟩ = some (.int .i64 f) := n_u2.cell a1_u1; have a2_u2 : u2.cell? ⟨w.heap.size, 2, none⟩ = some (.int .i64 u) := n_u2.cell a2_u1; have b0_u2 : u2.cell? ⟨w.heap.size + 1, 0, none⟩ = some (.int .i64 b) := n_u2.cell b0_u1; have b1_u2 : u2.cell? ⟨w.heap.size + 1, 1, none⟩ = some (.int .i64 g) := n_u2.cell b1_u1; have b2_u2 : u2.cell? ⟨w.heap.size + 1, 2, none⟩ = some (.int .i64 v) := n_u2.cell b2_u1; have t0_u2 : u2.cell? ⟨w2.heap.size, 0, none⟩ = some (.int .i64 p) := n_u2.cell t0_u1; have t1_u2 : u2.cell? ⟨w2.heap.size, 1, none⟩ = some (.int .i64 q) := n_u2.cell t1_u1; rw [EO.out]; skip)
        | (go_at_call 52; refine (minus_any _ l1 l2 o1 o2 k7 (by omega) OC.out (by omega) (by omega) (by omega) (by omega) (by omega) (by omega) (by omega) (by omega)).mono ?_; rintro e u3 ⟨rfl, n_u3⟩; (try replace n_u3 := New.undrew n_u3); have a0_u3 : u3.cell? ⟨w.heap.size, 0, none⟩ = some (.int .i64 a) := n_u3.cell a0_u2; have a1_u3 : u3.cell? ⟨w.heap.size, 1, none⟩ = some (.int .i64 f) := n_u3.cell a1_u2; have a2_u3 : u3.cell? ⟨w.heap.size, 2, none⟩ = some (.int .i64 u) := n_u3.cell a2_u2; have b0_u3 : u3.cell? ⟨w.heap.size + 1, 0, none⟩ = some (.int .i64 b) := n_u3.cell b0_u2; have b1_u3 : u3.cell? ⟨w.heap.size + 1, 1, none⟩ = some (.int .i64 g) := n_u3.cell b1_u2; have b2_u3 : u3.cell? ⟨w.heap.size + 1, 2, none⟩ = some (.int .i64 v) := n_u3.cell b2_u2; have t0_u3 : u3.cell? ⟨w2.heap.size, 0, none⟩ = some (.int .i64 p) := n_u3.cell t0_u2; have t1_u3 : u3.cell? ⟨w2.heap.size, 1, none⟩ = some (.int .i64 q) := n_u3.cell t1_u2; rw [X1.out]; skip)
        | (go_at_call_of 58 (Value.agg #[.int .i64 b, .int .i64 g, .int .i64 v]); refine (level_any _ b g v OB.out).mono ?_; rintro e u4 ⟨rfl, n_u4⟩; (try replace n_u4 := New.undrew n_u4); have a0_u4 : u4.cell? ⟨w.heap.size, 0, none⟩ = some (.int .i64 a) := n_u4.cell a0_u3; have a1_u4 : u4.cell? ⟨w.heap.size, 1, none⟩ = some (.int .i64 f) := n_u4.cell a1_u3; have a2_u4 : u4.cell? ⟨w.heap.size, 2, none⟩ = some (.int .i64 u) := n_u4.cell a2_u3; have b0_u4 : u4.cell? ⟨w.heap.size + 1, 0, none⟩ = some (.int .i64 b) := n_u4.cell b0_u3; have b1_u4 : u4.cell? ⟨w.heap.size + 1, 1, none⟩ = some (.int .i64 g) := n_u4.cell b1_u3; have b2_u4 : u4.cell? ⟨w.heap.size + 1, 2, none⟩ = some (.int .i64 v) := n_u4.cell b2_u3; have t0_u4 : u4.cell? ⟨w2.heap.size, 0, none⟩ = some (.int .i64 p) := n_u4.cell t0_u3; have t1_u4 : u4.cell? ⟨w2.heap.size, 1, none⟩ = some (.int .i64 q) := n_u4.cell t1_u3; rw [EM.out]; skip)
        | (go_at_call 59; with_reducible refine (over_any _ p q b ob1 (by omega) (by omega) (by omega)).mono ?_; rintro e u5 ⟨rfl, n_u5⟩; (try replace n_u5 := New.undrew n_u5); have a0_u5 : u5.cell? ⟨w.heap.size, 0, none⟩ = some (.int .i64 a) := n_u5.cell a0_u4; have a1_u5 : u5.cell? ⟨w.heap.size, 1, none⟩ = some (.int .i64 f) := n_u5.cell a1_u4; have a2_u5 : u5.cell? ⟨w.heap.size, 2, none⟩ = some (.int .i64 u) := n_u5.cell a2_u4; have b0_u5 : u5.cell? ⟨w.heap.size + 1, 0, none⟩ = some (.int .i64 b) := n_u5.cell b0_u4; have b1_u5 : u5.cell? ⟨w.heap.size + 1, 1, none⟩ = some (.int .i64 g) := n_u5.cell b1_u4; have b2_u5 : u5.cell? ⟨w.heap.size + 1, 2, none⟩ = some (.int .i64 v) := n_u5.cell b2_u4; have t0_u5 : u5.cell? ⟨w2.heap.size, 0, none⟩ = some (.int .i64 p) := n_u5.cell t0_u4; have t1_u5 : u5.cell? ⟨w2.heap.size, 1, none⟩ = some (.int .i64 q) := n_u5.cell t1_u4; rw [ES.out]; skip)
        | (go_at_call 60; refine (plus_any _ m1 m2 s1 s2 k8 (by omega) (by omega) (by omega) (by omega) (by omega)).mono ?_; rintro e u6 ⟨rfl, n_u6⟩; (try replace n_u6 := New.undrew n_u6); have a0_u6 : u6.cell? ⟨w.heap.size, 0, none⟩ = some (.int .i64 a) := n_u6.cell a0_u5; have a1_u6 : u6.cell? ⟨w.heap.size, 1, none⟩ = some (.int .i64 f) := n_u6.cell a1_u5; have a2_u6 : u6.cell? ⟨w.heap.size, 2, none⟩ = some (.int .i64 u) := n_u6.cell a2_u5; have b0_u6 : u6.cell? ⟨w.heap.size + 1, 0, none⟩ = some (.int .i64 b) := n_u6.cell b0_u5; have b1_u6 : u6.cell? ⟨w.heap.size + 1, 1, none⟩ = some (.int .i64 g) := n_u6.cell b1_u5; have b2_u6 : u6.cell? ⟨w.heap.size + 1, 2, none⟩ = some (.int .i64 v) := n_u6.cell b2_u5; have t0_u6 : u6.cell? ⟨w2.heap.size, 0, none⟩ = some (.int .i64 p) := n_u6.cell t0_u5; have t1_u6 : u6.cell? ⟨w2.heap.size, 1, none⟩ = some (.int .i64 q) := n_u6.cell t1_u5; rw [X2.out]; skip))
    have K_u1 := Lib.hid (show New v0 u1 from n_u1); clear n_u1
    have K_u2 := Lib.hid (show New u1 u2 from n_u2); clear n_u2
    have K_u3 := Lib.hid (show New u2 u3 from n_u3); clear n_u3
    have K_u4 := Lib.hid (show New u3 u4 from n_u4); clear n_u4
    have K_u5 := Lib.hid (show New u4 u5 from n_u5); clear n_u5
    have K_u6 := Lib.hid (show New u5 u6 from n_u6); clear n_u6
    have NL := Lib.hid (((((((N3.out.trans K_u1.out).trans K_u2.out).trans K_u3.out).trans K_u4.out).trans K_u5.out).trans K_u6.out))
    go_wp2
    go_ret2
    rw [HM.out, HB.out]
    refine ⟨_, _, _, rfl, two_own NL.out.size (heap_alloc_new _ _), ?_⟩
    have := NL.out
    (repeat (first | with_reducible exact New.refl _ | with_reducible assumption | refine New.drewN ?_ _ | refine New.drew ?_ | refine New.alloc ?_ _ | refine New.setCell ?_ (by first | omega | (simp; omega) | (simp; done)) _ | (refine New.trans ?_ (by assumption))))
  · have hf := bool_no hk
    have HM := Lib.hid (plM_no hf)
    have HB := Lib.hid hf; clear hk hf
    go_enter Try.func32, Try.ntmps32
    go_wp2_with fail
    refine (isPipe_any _ _ _ _ _ _ _ _).mono ?_
    rintro e w1 ⟨rfl, n1⟩
    rw [HB.out]
    have N1 := Lib.hid (show New w w1 from New.trans (by repeat (first | with_reducible exact New.refl _ | with_reducible assumption | refine New.drewN ?_ _ | refine New.drew ?_ | refine New.alloc ?_ _ | refine New.setCell ?_ (by first | omega | (simp; omega) | (simp; done)) _ | (refine New.trans ?_ (by assumption)))) n1); clear n1
    go_wp2
    go_ret2
    rw [HM.out, HB.out]
    exact ⟨_, _, _, rfl, OwnRatio.nil _ _ _, N1.out⟩
end Go.Proofs.Ytkhniokfpmhonaa
