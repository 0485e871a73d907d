/- What flows through a pipe: the model's either way, and the program's. -/
import Derived.Test.YtkhniokfpmhonaaPip2
import Derived.Test.YtkhniokfpmhonaaRowRatio
namespace Go.Proofs.Ytkhniokfpmhonaa
open Go.RowKit Go.IntWalk

structure ThrBd (p : Int × Int) : Prop where
  n0 : -100000000 ≤ p.1
  n1 : p.1 ≤ 100000000
  d0 : 1 ≤ p.2
  d1 : p.2 ≤ 1000
  cop : Int.gcd p.1 p.2 = 1
theorem ThrBd.of_red {n d : Int} (h0 : -100000000 ≤ n) (h1 : n ≤ 100000000) (h2 : 1 ≤ d) (h3 : d ≤ 1000) : ThrBd (red n d) := by
  have hr := red_le (n := n) (show 0 < d by omega)
  have hp := red_pos (n := n) (show 0 < d by omega)
  have hc := red_cop (n := n) (show 0 < d by omega)
  by_cases hn : 0 ≤ n
  · have := hr.2.1 hn
    exact ⟨by omega, by omega, by omega, by omega, hc⟩
  · have := hr.2.2 (by omega)
    exact ⟨by omega, by omega, by omega, by omega, hc⟩
theorem thr_bd {A B : Tk} {h : Int} (ok : PipeOk A B h) : ThrBd (thrR A B h) := by
  have a1 := ok.a.a1; have a2 := ok.a.a2; have f1 := ok.a.f1; have f2 := ok.a.f2; have u1 := ok.a.w1; have u2 := ok.a.w2
  have b1 := ok.b.a1; have b2 := ok.b.a2; have g1 := ok.b.f1; have g2 := ok.b.f2; have v1 := ok.b.w1; have v2 := ok.b.w2
  have m1 := mul_bd (show 0 ≤ A.1 by omega) a2 f1 f2
  have m2 := mul_bd (show 0 ≤ B.1 by omega) b2 g1 g2
  have m3 := mul_bd ok.h0 ok.h1 (show 0 ≤ A.1 by omega) a2
  unfold thrR
  split
  · exact ⟨by omega, by omega, by omega, by omega, by simp⟩
  · split
    · exact ThrBd.of_red (by unfold numT; omega) (by unfold numT; omega) (by omega) (by omega)
    · have hs : 0 < A.1 + B.1 := by omega
      have hr := red_le (n := numT A + numT B) hs
      have hp := red_pos (n := numT A + numT B) hs
      have h1 := hr.2.1 (by unfold numT; omega)
      generalize red (numT A + numT B) (A.1 + B.1) = X at *
      have LB : LvBd X := ⟨by omega, by unfold numT at h1; omega, by omega, by omega⟩
      have ub := upTo_bd ok.a LB
      have ur := red_le (n := upTo X.1 X.2 A) hp
      have up := red_pos (n := upTo X.1 X.2 A) hp
      have h2 := ur.2.1 ub.1
      have m6 := mul_bd u1 u2 (show 0 ≤ (red (upTo X.1 X.2 A) X.2).2 by omega) (show (red (upTo X.1 X.2 A) X.2).2 ≤ 1000 by omega)
      exact ThrBd.of_red (by omega) (by omega) (by omega) (by omega)
/-- What flows from the one to the other. -/
def flR (A B : Tk) (h : Int) : Int × Int := if (lvR A).1 * (lvR B).2 < (lvR B).1 * (lvR A).2 then (-(thrR B A h).1, (thrR B A h).2) else thrR A B h
theorem PipeOk.swap {A B : Tk} {h : Int} (k : PipeOk A B h) : PipeOk B A h := ⟨k.b, k.a, k.h0, k.h1, k.g, k.f⟩
theorem fl_bd {A B : Tk} {h : Int} (ok : PipeOk A B h) : ThrBd (flR A B h) := by
  unfold flR
  split
  · have := thr_bd ok.swap
    have h1 := this.n0; have h2 := this.n1; have h3 := this.d0; have h4 := this.d1; have h5 := this.cop
    exact ⟨by simp only; omega, by simp only; omega, h3, h4, by simp only; rw [Int.neg_gcd]; exact h5⟩
  · exact thr_bd ok

set_option maxRecDepth 100000 in
set_option maxHeartbeats 4000000 in
theorem leFlow_any (w : World) (a f u b g v h : Int) (ok : PipeOk (a, f, u) (b, g, v) h) :
    Calls Try.prog 55 #[tkV a f u, tkV b g v, .int .i64 h] w fun e w' => e = .returned (ratV (flR (a, f, u) (b, g, v) h)) ∧ New w w' := by
  have OA := Lib.hid ok.a
  have OB := Lib.hid ok.b
  have OK := Lib.hid ok
  have la := lvR_bd ok.a
  have lb := lvR_bd ok.b
  obtain ⟨L, hL⟩ : ∃ L, L = lvR (a, f, u) := ⟨_, rfl⟩
  obtain ⟨M, hM⟩ : ∃ M, M = lvR (b, g, v) := ⟨_, rfl⟩
  have EL := Lib.hid (show red (a * f + u) a = L from hL.symm)
  have EM := Lib.hid (show red (b * g + v) b = M from hM.symm)
  have FL := Lib.hid (show flR (a, f, u) (b, g, v) h = if L.1 * M.2 < M.1 * L.2 then (-(thrR (b, g, v) (a, f, u) h).1, (thrR (b, g, v) (a, f, u) h).2) else thrR (a, f, u) (b, g, v) h by rw [hL, hM]; rfl)
  rw [← hL] at la
  rw [← hM] at lb
  clear hL hM ok
  obtain ⟨l1, l2⟩ := L
  obtain ⟨m1, m2⟩ := M
  simp only at la lb
  obtain ⟨la1, la2, la3, la4⟩ := la
  obtain ⟨lb1, lb2, lb3, lb4⟩ := lb
  simp only at FL
  have p1 := mul_bd la1 la2 (show 0 ≤ m2 by omega) lb4
  have p2 := mul_bd lb1 lb2 (show 0 ≤ l2 by omega) la4
  go_enter Try.func55, Try.ntmps55
  go_upto_region 1 with fail
  obtain ⟨v0, hv0⟩ : ∃ xx : World, xx = (((w.alloc (.cells #[.int .i64 a, .int .i64 f, .int .i64 u] 49)).alloc (.cells #[.int .i64 b, .int .i64 g, .int .i64 v] 49)).alloc (.cells #[.int .i64 0, .int .i64 0] 25)) := ⟨_, rfl⟩
  rw [← hv0]
  have a0_v0 : v0.cell? ⟨w.heap.size, 0, none⟩ = some (.int .i64 a) := by rw [hv0]; simp [go_sem]
  have a1_v0 : v0.cell? ⟨w.heap.size, 1, none⟩ = some (.int .i64 f) := by rw [hv0]; simp [go_sem]
  have a2_v0 : v0.cell? ⟨w.heap.size, 2, none⟩ = some (.int .i64 u) := by rw [hv0]; simp [go_sem]
  have b0_v0 : v0.cell? ⟨w.heap.size + 1, 0, none⟩ = some (.int .i64 b) := by rw [hv0]; simp [go_sem]
  have b1_v0 : v0.cell? ⟨w.heap.size + 1, 1, none⟩ = some (.int .i64 g) := by rw [hv0]; simp [go_sem]
  have b2_v0 : v0.cell? ⟨w.heap.size + 1, 2, none⟩ = some (.int .i64 v) := by rw [hv0]; simp [go_sem]
  have r0_v0 : v0.cell? ⟨w.heap.size + 1 + 1, 0, none⟩ = some (.int .i64 0) := by rw [hv0]; simp [go_sem]
  have zr0_v0 : v0.frozen? ⟨w.heap.size + 1 + 1, 0, none⟩ = false := by rw [hv0]; simp [go_sem]
  have r1_v0 : v0.cell? ⟨w.heap.size + 1 + 1, 1, none⟩ = some (.int .i64 0) := by rw [hv0]; simp [go_sem]
  have zr1_v0 : v0.frozen? ⟨w.heap.size + 1 + 1, 1, none⟩ = false := by rw [hv0]; simp [go_sem]
  have N0 := Lib.hid (show New w v0 by rw [hv0]; exact (by repeat (first | with_reducible exact New.refl _ | with_reducible assumption | refine New.drewN ?_ _ | refine New.drew ?_ | refine New.alloc ?_ _ | refine New.setCell ?_ (by first | omega | (simp; omega) | (simp; done)) _ | (refine New.trans ?_ (by assumption)))))
  have zv0 : w.heap.size + 1 + 1 < v0.heap.size := by rw [hv0]; simp
  clear hv0
  go_region_held3 (fun w' => w'.cell? ⟨w.heap.size, 0, none⟩ = some (.int .i64 a) ∧ w'.cell? ⟨w.heap.size, 1, none⟩ = some (.int .i64 f) ∧ w'.cell? ⟨w.heap.size, 2, none⟩ = some (.int .i64 u) ∧ w'.cell? ⟨w.heap.size + 1, 0, none⟩ = some (.int .i64 b) ∧ w'.cell? ⟨w.heap.size + 1, 1, none⟩ = some (.int .i64 g) ∧ w'.cell? ⟨w.heap.size + 1, 2, none⟩ = some (.int .i64 v))
    (first | with_reducible exact ⟨a0_v0, a1_v0, a2_v0, b0_v0, b1_v0, b2_v0⟩ | with_reducible exact ⟨a0_u1, a1_u1, a2_u1, b0_u1, b1_u1, b2_u1⟩ | with_reducible exact ⟨a0_u2, a1_u2, a2_u2, b0_u2, b1_u2, b2_u2⟩ | with_reducible exact ⟨a0_u3, a1_u3, a2_u3, b0_u3, b1_u3, b2_u3⟩ | exact ⟨a0_v0, a1_v0, a2_v0, b0_v0, b1_v0, b2_v0⟩ | fail)
    (first
      | (go_at_call_of 79 (Value.agg #[.int .i64 a, .int .i64 f, .int .i64 u]); refine (leLevel_any _ a f u OA.out).mono ?_; rintro e u1 ⟨rfl, n_u1⟩; (try replace n_u1 := New.undrew n_u1); have a0_u1 : u1.cell? ⟨w.heap.size, 0, none⟩ = some (.int .i64 a) := n_u1.cell a0_v0; have a1_u1 : u1.cell? ⟨w.heap.size, 1, none⟩ = some (.int .i64 f) := n_u1.cell a1_v0; have a2_u1 : u1.cell? ⟨w.heap.size, 2, none⟩ = some (.int .i64 u) := n_u1.cell a2_v0; have b0_u1 : u1.cell? ⟨w.heap.size + 1, 0, none⟩ = some (.int .i64 b) := n_u1.cell b0_v0; have b1_u1 : u1.cell? ⟨w.heap.size + 1, 1, none⟩ = some (.int .i64 g) := n_u1.cell b1_v0; have b2_u1 : u1.cell? ⟨w.heap.size + 1, 2, none⟩ = some (.int .i64 v) := n_u1.cell b2_v0; have r0_u1 : u1.cell? ⟨w.heap.size + 1 + 1, 0, none⟩ = some (.int .i64 0) := n_u1.cell r0_v0; have zr0_u1 : u1.frozen? ⟨w.heap.size + 1 + 1, 0, none⟩ = false := n_u1.frz r0_v0 zr0_v0; have r1_u1 : u1.cell? ⟨w.heap.size + 1 + 1, 1, none⟩ = some (.int .i64 0) := n_u1.cell r1_v0; have zr1_u1 : u1.frozen? ⟨w.heap.size + 1 + 1, 1, none⟩ = false := n_u1.frz r1_v0 zr1_v0; rw [EL.out]; skip)
      | (go_at_call_of 79 (Value.agg #[.int .i64 b, .int .i64 g, .int .i64 v]); refine (leLevel_any _ b g v OB.out).mono ?_; rintro e u2 ⟨rfl, n_u2⟩; (try replace n_u2 := New.undrew n_u2); have a0_u2 : u2.cell? ⟨w.heap.size, 0, none⟩ = some (.int .i64 a) := n_u2.cell a0_u1; have a1_u2 : u2.cell? ⟨w.heap.size, 1, none⟩ = some (.int .i64 f) := n_u2.cell a1_u1; have a2_u2 : u2.cell? ⟨w.heap.size, 2, none⟩ = some (.int .i64 u) := n_u2.cell a2_u1; have b0_u2 : u2.cell? ⟨w.heap.size + 1, 0, none⟩ = some (.int .i64 b) := n_u2.cell b0_u1; have b1_u2 : u2.cell? ⟨w.heap.size + 1, 1, none⟩ = some (.int .i64 g) := n_u2.cell b1_u1; have b2_u2 : u2.cell? ⟨w.heap.size + 1, 2, none⟩ = some (.int .i64 v) := n_u2.cell b2_u1; have r0_u2 : u2.cell? ⟨w.heap.size + 1 + 1, 0, none⟩ = some (.int .i64 0) := n_u2.cell r0_u1; have zr0_u2 : u2.frozen? ⟨w.heap.size + 1 + 1, 0, none⟩ = false := n_u2.frz r0_u1 zr0_u1; have r1_u2 : u2.cell? ⟨w.heap.size + 1 + 1, 1, none⟩ = some (.int .i64 0) := n_u2.cell r1_u1; have zr1_u2 : u2.frozen? ⟨w.heap.size + 1 + 1, 1, none⟩ = false := n_u2.frz r1_u1 zr1_u1; rw [EM.out]; skip)
      | (go_at_call 78; refine (leLess_any _ l1 l2 m1 m2 (by omega) (by omega) (by omega) (by omega)).mono ?_; rintro e u3 ⟨rfl, n_u3⟩; (try replace n_u3 := New.undrew n_u3); have a0_u3 : u3.cell? ⟨w.heap.size, 0, none⟩ = some (.int .i64 a) := n_u3.cell a0_u2; have a1_u3 : u3.cell? ⟨w.heap.size, 1, none⟩ = some (.int .i64 f) := n_u3.cell a1_u2; have a2_u3 : u3.cell? ⟨w.heap.size, 2, none⟩ = some (.int .i64 u) := n_u3.cell a2_u2; have b0_u3 : u3.cell? ⟨w.heap.size + 1, 0, none⟩ = some (.int .i64 b) := n_u3.cell b0_u2; have b1_u3 : u3.cell? ⟨w.heap.size + 1, 1, none⟩ = some (.int .i64 g) := n_u3.cell b1_u2; have b2_u3 : u3.cell? ⟨w.heap.size + 1, 2, none⟩ = some (.int .i64 v) := n_u3.cell b2_u2; have r0_u3 : u3.cell? ⟨w.heap.size + 1 + 1, 0, none⟩ = some (.int .i64 0) := n_u3.cell r0_u2; have zr0_u3 : u3.frozen? ⟨w.heap.size + 1 + 1, 0, none⟩ = false := n_u3.frz r0_u2 zr0_u2; have r1_u3 : u3.cell? ⟨w.heap.size + 1 + 1, 1, none⟩ = some (.int .i64 0) := n_u3.cell r1_u2; have zr1_u3 : u3.frozen? ⟨w.heap.size + 1 + 1, 1, none⟩ = false := n_u3.frz r1_u2 zr1_u2;  skip))
  have K_u1 := Lib.hid (show New v0 u1 from n_u1); clear n_u1
  have K_u2 := Lib.hid (show New u1 u2 from n_u2); clear n_u2
  have K_u3 := Lib.hid (show New u2 u3 from n_u3); clear n_u3
  have NN := Lib.hid ((((N0.out.trans K_u1.out).trans K_u2.out).trans K_u3.out))
  have zr : w.heap.size + 1 + 1 < u3.heap.size := World.block_lt_of_cell? _ _ r0_u3
  clear a0_v0 a0_u1 a0_u2 a1_v0 a1_u1 a1_u2 a2_v0 a2_u1 a2_u2 b0_v0 b0_u1 b0_u2 b1_v0 b1_u1 b1_u2 b2_v0 b2_u1 b2_u2 r0_v0 r0_u1 r0_u2 r1_v0 r1_u1 r1_u2
  generalize hbb : (decide (l1 * m2 < m1 * l2)) = bb
  cases bb
  · have c1 : ¬ l1 * m2 < m1 * l2 := of_decide_eq_false hbb
    rw [if_neg c1] at FL
    clear hbb
    go_wp2_with fail
    refine (leThrough_any _ a f u b g v h OK.out).mono ?_
    rintro e w3 ⟨rfl, n3⟩
    obtain ⟨s0, s1, y0, y1⟩ := pair_kept n3 ⟨r0_u3, r1_u3, zr0_u3, zr1_u3⟩
    have N3 := Lib.hid (NN.out.trans n3); clear n3
    obtain ⟨p, hp⟩ : ∃ p, p = thrR (a, f, u) (b, g, v) h := ⟨_, rfl⟩
    rw [← hp] at FL ⊢
    clear hp
    go_wp2
    refine bodyPost_ret (v := ratV p) (by simp [results, Try.results55, go_sem, s0, s1]) rfl ⟨by rw [FL.out], ?_⟩
    have := N3.out
    (repeat (first | with_reducible exact New.refl _ | with_reducible assumption | refine New.drewN ?_ _ | refine New.drew ?_ | refine New.alloc ?_ _ | refine New.setCell ?_ (by first | omega | (simp; omega) | (simp; done)) _ | (refine New.trans ?_ (by assumption))))
  · have c1 : l1 * m2 < m1 * l2 := of_decide_eq_true hbb
    rw [if_pos c1] at FL
    clear hbb
    go_wp2_with fail
    refine (leThrough_any _ b g v a f u h OK.out.swap).mono ?_
    rintro e w3 ⟨rfl, n3⟩
    obtain ⟨s0, s1, y0, y1⟩ := pair_kept n3 ⟨r0_u3, r1_u3, zr0_u3, zr1_u3⟩
    have N3 := Lib.hid (NN.out.trans n3)
    have z3 := n3.size; clear n3
    have TB := Lib.hid (thr_bd OK.out.swap)
    obtain ⟨p, hp⟩ : ∃ p, p = thrR (b, g, v) (a, f, u) h := ⟨_, rfl⟩
    rw [← hp] at FL TB ⊢
    clear hp
    obtain ⟨p, q⟩ := p
    have t1 := TB.out.n0; have t2 := TB.out.n1
    simp only at t1 t2
    go_upto_region 3 with fail
    obtain ⟨w4, hw4⟩ : ∃ xx : World, xx = w3.alloc (.cells #[.int .i64 p, .int .i64 q] 25) := ⟨_, rfl⟩
    rw [← hw4]
    have e0 : w4.cell? ⟨w3.heap.size, 0, none⟩ = some (.int .i64 p) := by rw [hw4]; simp [go_sem]
    have e1 : w4.cell? ⟨w3.heap.size, 1, none⟩ = some (.int .i64 q) := by rw [hw4]; simp [go_sem]
    have M4 := Lib.hid (show New w3 w4 by rw [hw4]; exact (by repeat (first | with_reducible exact New.refl _ | with_reducible assumption | refine New.drewN ?_ _ | refine New.drew ?_ | refine New.alloc ?_ _ | refine New.setCell ?_ (by first | omega | (simp; omega) | (simp; done)) _ | (refine New.trans ?_ (by assumption)))))
    clear hw4
    obtain ⟨s0, s1, y0, y1⟩ := pair_kept M4.out ⟨s0, s1, y0, y1⟩
    go_wp2
    refine bodyPost_ret (v := ratV (-p, q)) (by simp [results, Try.results55, go_sem, s0, s1]) rfl ⟨by rw [FL.out], ?_⟩
    have := N3.out.trans M4.out
    (repeat (first | with_reducible exact New.refl _ | with_reducible assumption | refine New.drewN ?_ _ | refine New.drew ?_ | refine New.alloc ?_ _ | refine New.setCell ?_ (by first | omega | (simp; omega) | (simp; done)) _ | (refine New.trans ?_ (by assumption))))

theorem two_reads {w : World} {B : Nat} {a f u b g v : Int} (h0 : w.cell? ⟨B, 0, none⟩ = some (.int .i64 a)) (h1 : w.cell? ⟨B, 1, none⟩ = some (.int .i64 f)) (h2 : w.cell? ⟨B, 2, none⟩ = some (.int .i64 u))
    (h3 : w.cell? ⟨B, 3, none⟩ = some (.int .i64 b)) (h4 : w.cell? ⟨B, 4, none⟩ = some (.int .i64 g)) (h5 : w.cell? ⟨B, 5, none⟩ = some (.int .i64 v)) : Tanks w (some ⟨B, 0, none⟩) 2 2 [(a, f, u), (b, g, v)] := by
  refine ⟨rfl, by omega, by omega, fun j hj => ⟨B, 0, rfl, ?_⟩, fun e => by cases e⟩
  have : j = 0 ∨ j = 1 := by omega
  rcases this with rfl | rfl
  · exact ⟨h0, h1, h2⟩
  · exact ⟨h3, h4, h5⟩
theorem com_two_bd {A B : Tk} (hA : TkOk A) (hB : TkOk B) : 0 ≤ (comR [A, B]).1 ∧ (comR [A, B]).1 ≤ 90000 ∧ 0 < (comR [A, B]).2 ∧ (comR [A, B]).2 ≤ 300 := com_bd (two_ok hA hB)
theorem rest_bd {A B : Tk} {h : Int} (ok : PipeOk A B h) : 0 ≤ (restR A B h).1 ∧ (restR A B h).1 ≤ 90000 ∧ 0 < (restR A B h).2 ∧ (restR A B h).2 ≤ 300 ∧ Int.gcd (restR A B h).1 (restR A B h).2 = 1 := by
  have hb := com_two_bd ok.a ok.b
  have hc := (com_lvl (two_ok ok.a ok.b)).cop
  have h0 := ok.h0; have h1 := ok.h1
  unfold restR
  split
  · exact ⟨h0, by simp only; omega, by simp, by simp, by simp⟩
  · exact ⟨hb.1, hb.2.1, hb.2.2.1, hb.2.2.2, hc⟩

set_option maxRecDepth 100000 in
set_option maxHeartbeats 4000000 in
theorem pipeFlow_ge (w : World) (a f u b g v h : Int) (ok : PipeOk (a, f, u) (b, g, v) h) (hge : ¬ (lvR (a, f, u)).1 * (lvR (b, g, v)).2 < (lvR (b, g, v)).1 * (lvR (a, f, u)).2) :
    Calls Try.prog 57 #[tkV a f u, tkV b g v, .int .i64 h] w fun e w' => e = .returned (ratV (thrR (a, f, u) (b, g, v) h)) ∧ New w w' := by
  have OA := Lib.hid ok.a
  have OB := Lib.hid ok.b
  have OK := Lib.hid ok
  have la := lvR_bd ok.a
  have lb := lvR_bd ok.b
  obtain ⟨L, hL⟩ : ∃ L, L = lvR (a, f, u) := ⟨_, rfl⟩
  obtain ⟨M, hM⟩ : ∃ M, M = lvR (b, g, v) := ⟨_, rfl⟩
  have EL := Lib.hid (show red (a * f + u) a = L from hL.symm)
  have EM := Lib.hid (show red (b * g + v) b = M from hM.symm)
  have FL := Lib.hid (show flR (a, f, u) (b, g, v) h = if L.1 * M.2 < M.1 * L.2 then (-(thrR (b, g, v) (a, f, u) h).1, (thrR (b, g, v) (a, f, u) h).2) else thrR (a, f, u) (b, g, v) h by rw [hL, hM]; rfl)
  have TH := Lib.hid (thr_eq ok.a ok.b ok.f ok.g hge)
  have CB := com_two_bd ok.a ok.b
  have RB := rest_bd ok
  have PF := Lib.hid (show pflR (a, f, u) (b, g, v) h = if L.1 * (restR (a, f, u) (b, g, v) h).2 < (restR (a, f, u) (b, g, v) h).1 * L.2 then (0, 1) else red ((red (L.1 * (restR (a, f, u) (b, g, v) h).2 - (restR (a, f, u) (b, g, v) h).1 * L.2) (L.2 * (restR (a, f, u) (b, g, v) h).2)).1 * a) (red (L.1 * (restR (a, f, u) (b, g, v) h).2 - (restR (a, f, u) (b, g, v) h).1 * L.2) (L.2 * (restR (a, f, u) (b, g, v) h).2)).2 by rw [hL]; rfl)
  rw [← hL] at la hge
  rw [← hM] at lb hge
  have RE := Lib.hid (show restR (a, f, u) (b, g, v) h = if (comR [(a, f, u), (b, g, v)]).1 * 1 < h * (comR [(a, f, u), (b, g, v)]).2 then (h, 1) else comR [(a, f, u), (b, g, v)] from rfl)
  have h0 := ok.h0; have h1 := ok.h1
  have a1 := ok.a.a1; have a2 := ok.a.a2
  simp only at a1 a2
  have ZZ := Lib.hid (show red 0 1 = ((0 : Int), (1 : Int)) by rfl)
  clear hL hM ok FL
  obtain ⟨l1, l2⟩ := L
  obtain ⟨m1, m2⟩ := M
  obtain ⟨X, hX⟩ : ∃ X, X = comR [(a, f, u), (b, g, v)] := ⟨_, rfl⟩
  have EX := Lib.hid (show comR [(a, f, u), (b, g, v)] = X from hX.symm)
  rw [← hX] at CB RE
  clear hX
  obtain ⟨R, hR⟩ : ∃ R, R = restR (a, f, u) (b, g, v) h := ⟨_, rfl⟩
  have ER := Lib.hid (show restR (a, f, u) (b, g, v) h = R from hR.symm)
  rw [← hR] at RB PF RE
  clear hR
  obtain ⟨p, q⟩ := X
  obtain ⟨r, s⟩ := R
  simp only at la lb hge CB RB PF RE
  obtain ⟨la1, la2, la3, la4⟩ := la
  obtain ⟨lb1, lb2, lb3, lb4⟩ := lb
  obtain ⟨cb1, cb2, cb3, cb4⟩ := CB
  obtain ⟨rb1, rb2, rb3, rb4, rb5⟩ := RB
  have RC := Lib.hid rb5; clear rb5
  have p1 := mul_bd la1 la2 (show 0 ≤ m2 by omega) lb4
  have p2 := mul_bd lb1 lb2 (show 0 ≤ l2 by omega) la4
  have p3 := mul_bd h0 h1 (show 0 ≤ q by omega) cb4
  have p4 := mul_bd la1 la2 (show 0 ≤ s by omega) rb4
  have p5 := mul_bd rb1 rb2 (show 0 ≤ l2 by omega) la4
  have p6 := mul_bd (show 0 ≤ l2 by omega) la4 (show 0 ≤ s by omega) rb4
  have p7 : 0 < l2 * s := Int.mul_pos (by omega) rb3
  go_enter Try.func57, Try.ntmps57
  go_upto_region 1 with fail
  obtain ⟨v0, hv0⟩ : ∃ xx : World, xx = (((w.alloc (.cells #[.int .i64 a, .int .i64 f, .int .i64 u] 49)).alloc (.cells #[.int .i64 b, .int .i64 g, .int .i64 v] 49)).alloc (.cells #[.int .i64 0, .int .i64 0] 25)) := ⟨_, rfl⟩
  rw [← hv0]
  have a0_v0 : v0.cell? ⟨w.heap.size, 0, none⟩ = some (.int .i64 a) := by rw [hv0]; simp [go_sem]
  have a1_v0 : v0.cell? ⟨w.heap.size, 1, none⟩ = some (.int .i64 f) := by rw [hv0]; simp [go_sem]
  have a2_v0 : v0.cell? ⟨w.heap.size, 2, none⟩ = some (.int .i64 u) := by rw [hv0]; simp [go_sem]
  have b0_v0 : v0.cell? ⟨w.heap.size + 1, 0, none⟩ = some (.int .i64 b) := by rw [hv0]; simp [go_sem]
  have b1_v0 : v0.cell? ⟨w.heap.size + 1, 1, none⟩ = some (.int .i64 g) := by rw [hv0]; simp [go_sem]
  have b2_v0 : v0.cell? ⟨w.heap.size + 1, 2, none⟩ = some (.int .i64 v) := by rw [hv0]; simp [go_sem]
  have r0_v0 : v0.cell? ⟨w.heap.size + 1 + 1, 0, none⟩ = some (.int .i64 0) := by rw [hv0]; simp [go_sem]
  have zr0_v0 : v0.frozen? ⟨w.heap.size + 1 + 1, 0, none⟩ = false := by rw [hv0]; simp [go_sem]
  have r1_v0 : v0.cell? ⟨w.heap.size + 1 + 1, 1, none⟩ = some (.int .i64 0) := by rw [hv0]; simp [go_sem]
  have zr1_v0 : v0.frozen? ⟨w.heap.size + 1 + 1, 1, none⟩ = false := by rw [hv0]; simp [go_sem]
  have N0 := Lib.hid (show New w v0 by rw [hv0]; exact (by repeat (first | with_reducible exact New.refl _ | with_reducible assumption | refine New.drewN ?_ _ | refine New.drew ?_ | refine New.alloc ?_ _ | refine New.setCell ?_ (by first | omega | (simp; omega) | (simp; done)) _ | (refine New.trans ?_ (by assumption)))))
  have zv0 : w.heap.size + 1 + 1 < v0.heap.size := by rw [hv0]; simp
  clear hv0
  go_region_held3 (fun w' => w'.cell? ⟨w.heap.size, 0, none⟩ = some (.int .i64 a) ∧ w'.cell? ⟨w.heap.size, 1, none⟩ = some (.int .i64 f) ∧ w'.cell? ⟨w.heap.size, 2, none⟩ = some (.int .i64 u) ∧ w'.cell? ⟨w.heap.size + 1, 0, none⟩ = some (.int .i64 b) ∧ w'.cell? ⟨w.heap.size + 1, 1, none⟩ = some (.int .i64 g) ∧ w'.cell? ⟨w.heap.size + 1, 2, none⟩ = some (.int .i64 v))
    (first | with_reducible exact ⟨a0_v0, a1_v0, a2_v0, b0_v0, b1_v0, b2_v0⟩ | with_reducible exact ⟨a0_u1, a1_u1, a2_u1, b0_u1, b1_u1, b2_u1⟩ | with_reducible exact ⟨a0_u2, a1_u2, a2_u2, b0_u2, b1_u2, b2_u2⟩ | with_reducible exact ⟨a0_u3, a1_u3, a2_u3, b0_u3, b1_u3, b2_u3⟩ | exact ⟨a0_v0, a1_v0, a2_v0, b0_v0, b1_v0, b2_v0⟩ | fail)
    (first
      | (go_at_call_of 58 (Value.agg #[.int .i64 a, .int .i64 f, .int .i64 u]); refine (level_any _ a f u OA.out).mono ?_; rintro e u1 ⟨rfl, n_u1⟩; (try replace n_u1 := New.undrew n_u1); have a0_u1 : u1.cell? ⟨w.heap.size, 0, none⟩ = some (.int .i64 a) := n_u1.cell a0_v0; have a1_u1 : u1.cell? ⟨w.heap.size, 1, none⟩ = some (.int .i64 f) := n_u1.cell a1_v0; have a2_u1 : u1.cell? ⟨w.heap.size, 2, none⟩ = some (.int .i64 u) := n_u1.cell a2_v0; have b0_u1 : u1.cell? ⟨w.heap.size + 1, 0, none⟩ = some (.int .i64 b) := n_u1.cell b0_v0; have b1_u1 : u1.cell? ⟨w.heap.size + 1, 1, none⟩ = some (.int .i64 g) := n_u1.cell b1_v0; have b2_u1 : u1.cell? ⟨w.heap.size + 1, 2, none⟩ = some (.int .i64 v) := n_u1.cell b2_v0; have r0_u1 : u1.cell? ⟨w.heap.size + 1 + 1, 0, none⟩ = some (.int .i64 0) := n_u1.cell r0_v0; have zr0_u1 : u1.frozen? ⟨w.heap.size + 1 + 1, 0, none⟩ = false := n_u1.frz r0_v0 zr0_v0; have r1_u1 : u1.cell? ⟨w.heap.size + 1 + 1, 1, none⟩ = some (.int .i64 0) := n_u1.cell r1_v0; have zr1_u1 : u1.frozen? ⟨w.heap.size + 1 + 1, 1, none⟩ = false := n_u1.frz r1_v0 zr1_v0; rw [EL.out]; skip)
      | (go_at_call_of 58 (Value.agg #[.int .i64 b, .int .i64 g, .int .i64 v]); refine (level_any _ b g v OB.out).mono ?_; rintro e u2 ⟨rfl, n_u2⟩; (try replace n_u2 := New.undrew n_u2); have a0_u2 : u2.cell? ⟨w.heap.size, 0, none⟩ = some (.int .i64 a) := n_u2.cell a0_u1; have a1_u2 : u2.cell? ⟨w.heap.size, 1, none⟩ = some (.int .i64 f) := n_u2.cell a1_u1; have a2_u2 : u2.cell? ⟨w.heap.size, 2, none⟩ = some (.int .i64 u) := n_u2.cell a2_u1; have b0_u2 : u2.cell? ⟨w.heap.size + 1, 0, none⟩ = some (.int .i64 b) := n_u2.cell b0_u1; have b1_u2 : u2.cell? ⟨w.heap.size + 1, 1, none⟩ = some (.int .i64 g) := n_u2.cell b1_u1; have b2_u2 : u2.cell? ⟨w.heap.size + 1, 2, none⟩ = some (.int .i64 v) := n_u2.cell b2_u1; have r0_u2 : u2.cell? ⟨w.heap.size + 1 + 1, 0, none⟩ = some (.int .i64 0) := n_u2.cell r0_u1; have zr0_u2 : u2.frozen? ⟨w.heap.size + 1 + 1, 0, none⟩ = false := n_u2.frz r0_u1 zr0_u1; have r1_u2 : u2.cell? ⟨w.heap.size + 1 + 1, 1, none⟩ = some (.int .i64 0) := n_u2.cell r1_u1; have zr1_u2 : u2.frozen? ⟨w.heap.size + 1 + 1, 1, none⟩ = false := n_u2.frz r1_u1 zr1_u1; rw [EM.out]; skip)
      | (go_at_call 81; refine (isLess_any _ l1 l2 m1 m2 (by omega) (by omega) (by omega) (by omega)).mono ?_; rintro e u3 ⟨rfl, n_u3⟩; (try replace n_u3 := New.undrew n_u3); have a0_u3 : u3.cell? ⟨w.heap.size, 0, none⟩ = some (.int .i64 a) := n_u3.cell a0_u2; have a1_u3 : u3.cell? ⟨w.heap.size, 1, none⟩ = some (.int .i64 f) := n_u3.cell a1_u2; have a2_u3 : u3.cell? ⟨w.heap.size, 2, none⟩ = some (.int .i64 u) := n_u3.cell a2_u2; have b0_u3 : u3.cell? ⟨w.heap.size + 1, 0, none⟩ = some (.int .i64 b) := n_u3.cell b0_u2; have b1_u3 : u3.cell? ⟨w.heap.size + 1, 1, none⟩ = some (.int .i64 g) := n_u3.cell b1_u2; have b2_u3 : u3.cell? ⟨w.heap.size + 1, 2, none⟩ = some (.int .i64 v) := n_u3.cell b2_u2; have r0_u3 : u3.cell? ⟨w.heap.size + 1 + 1, 0, none⟩ = some (.int .i64 0) := n_u3.cell r0_u2; have zr0_u3 : u3.frozen? ⟨w.heap.size + 1 + 1, 0, none⟩ = false := n_u3.frz r0_u2 zr0_u2; have r1_u3 : u3.cell? ⟨w.heap.size + 1 + 1, 1, none⟩ = some (.int .i64 0) := n_u3.cell r1_u2; have zr1_u3 : u3.frozen? ⟨w.heap.size + 1 + 1, 1, none⟩ = false := n_u3.frz r1_u2 zr1_u2;  skip))
  have K_u1 := Lib.hid (show New v0 u1 from n_u1); clear n_u1
  have K_u2 := Lib.hid (show New u1 u2 from n_u2); clear n_u2
  have K_u3 := Lib.hid (show New u2 u3 from n_u3); clear n_u3
  have NN := Lib.hid ((((N0.out.trans K_u1.out).trans K_u2.out).trans K_u3.out))
  have zr : w.heap.size + 1 + 1 < u3.heap.size := World.block_lt_of_cell? _ _ r0_u3
  clear a0_v0 a0_u1 a0_u2 a1_v0 a1_u1 a1_u2 a2_v0 a2_u1 a2_u2 b0_v0 b0_u1 b0_u2 b1_v0 b1_u1 b1_u2 b2_v0 b2_u1 b2_u2 r0_v0 r0_u1 r0_u2 r1_v0 r1_u1 r1_u2
  generalize hbb : (decide (l1 * m2 < m1 * l2)) = bb
  obtain rfl : bb = false := by rw [← hbb]; exact decide_eq_false (by omega)
  clear hbb
  go_wp2_with fail
  refine (commonLevel_any _ _ 2 2 [(a, f, u), (b, g, v)] (two_reads (by simp [go_sem]) (by simp [go_sem]) (by simp [go_sem]) (by simp [go_sem]) (by simp [go_sem]) (by simp [go_sem])) (two_ok OA.out OB.out)).mono ?_
  rintro e w4 ⟨rfl, n4⟩
  rw [EX.out]
  obtain ⟨s0, s1, y0, y1⟩ := pair_kept n4 (pair_kept (show New u3 _ from (by repeat (first | with_reducible exact New.refl _ | with_reducible assumption | refine New.drewN ?_ _ | refine New.drew ?_ | refine New.alloc ?_ _ | refine New.setCell ?_ (by first | omega | (simp; omega) | (simp; done)) _ | (refine New.trans ?_ (by assumption))))) ⟨r0_u3, r1_u3, zr0_u3, zr1_u3⟩)
  have K4 := Lib.hid (show New u3 w4 from New.trans (by repeat (first | with_reducible exact New.refl _ | with_reducible assumption | refine New.drewN ?_ _ | refine New.drew ?_ | refine New.alloc ?_ _ | refine New.setCell ?_ (by first | omega | (simp; omega) | (simp; done)) _ | (refine New.trans ?_ (by assumption)))) n4)
  have d0 := K4.out.cell a0_u3
  have d1 := K4.out.cell a1_u3
  have d2 := K4.out.cell a2_u3
  have zz := K4.out.size
  clear n4 a0_u3 a1_u3 a2_u3 b0_u3 b1_u3 b2_u3 r0_u3 r1_u3 zr0_u3 zr1_u3
  go_upto_region 4 with fail
  obtain ⟨v5, hv5⟩ : ∃ xx : World, xx = w4.alloc (.cells #[.int .i64 p, .int .i64 q] 25) := ⟨_, rfl⟩
  rw [← hv5]
  have t0_v5 : v5.cell? ⟨w4.heap.size, 0, none⟩ = some (.int .i64 p) := by rw [hv5]; simp [go_sem]
  have t1_v5 : v5.cell? ⟨w4.heap.size, 1, none⟩ = some (.int .i64 q) := by rw [hv5]; simp [go_sem]
  have zt0_v5 : v5.frozen? ⟨w4.heap.size, 0, none⟩ = false := by rw [hv5]; simp [go_sem]
  have zt1_v5 : v5.frozen? ⟨w4.heap.size, 1, none⟩ = false := by rw [hv5]; simp [go_sem]
  have K5 := Lib.hid (show New w4 v5 by rw [hv5]; exact (by repeat (first | with_reducible exact New.refl _ | with_reducible assumption | refine New.drewN ?_ _ | refine New.drew ?_ | refine New.alloc ?_ _ | refine New.setCell ?_ (by first | omega | (simp; omega) | (simp; done)) _ | (refine New.trans ?_ (by assumption)))))
  clear hv5
  have a0_v5 := K5.out.cell d0
  have a1_v5 := K5.out.cell d1
  have a2_v5 := K5.out.cell d2
  obtain ⟨r0_v5, r1_v5, zr0_v5, zr1_v5⟩ := pair_kept K5.out ⟨s0, s1, y0, y1⟩
  clear d0 d1 d2 s0 s1 y0 y1
  have NB := Lib.hid (NN.out.trans (K4.out.trans K5.out))
  have zw4 : w.heap.size + 1 + 1 < w4.heap.size := by omega
  go_region_held3 (fun w' => w'.cell? ⟨w4.heap.size, 0, none⟩ = some (.int .i64 p) ∧ w'.cell? ⟨w4.heap.size, 1, none⟩ = some (.int .i64 q))
    (first | with_reducible exact ⟨t0_v5, t1_v5⟩ | with_reducible exact ⟨t0_u4, t1_u4⟩ | with_reducible exact ⟨t0_u5, t1_u5⟩ | exact ⟨t0_v5, t1_v5⟩ | fail)
    (first
      | (go_at_call 53; refine (wholeRatio_any _ h).mono ?_; rintro e u4 ⟨rfl, n_u4⟩; (try replace n_u4 := New.undrew n_u4); have a0_u4 : u4.cell? ⟨w.heap.size, 0, none⟩ = some (.int .i64 a) := n_u4.cell a0_v5; have a1_u4 : u4.cell? ⟨w.heap.size, 1, none⟩ = some (.int .i64 f) := n_u4.cell a1_v5; have a2_u4 : u4.cell? ⟨w.heap.size, 2, none⟩ = some (.int .i64 u) := n_u4.cell a2_v5; have r0_u4 : u4.cell? ⟨w.heap.size + 1 + 1, 0, none⟩ = some (.int .i64 0) := n_u4.cell r0_v5; have zr0_u4 : u4.frozen? ⟨w.heap.size + 1 + 1, 0, none⟩ = false := n_u4.frz r0_v5 zr0_v5; have r1_u4 : u4.cell? ⟨w.heap.size + 1 + 1, 1, none⟩ = some (.int .i64 0) := n_u4.cell r1_v5; have zr1_u4 : u4.frozen? ⟨w.heap.size + 1 + 1, 1, none⟩ = false := n_u4.frz r1_v5 zr1_v5; have t0_u4 : u4.cell? ⟨w4.heap.size, 0, none⟩ = some (.int .i64 p) := n_u4.cell t0_v5; have t1_u4 : u4.cell? ⟨w4.heap.size, 1, none⟩ = some (.int .i64 q) := n_u4.cell t1_v5;  skip)
      | (go_at_call 81; refine (isLess_any _ p q h 1 (by omega) (by omega) (by omega) (by omega)).mono ?_; rintro e u5 ⟨rfl, n_u5⟩; (try replace n_u5 := New.undrew n_u5); have a0_u5 : u5.cell? ⟨w.heap.size, 0, none⟩ = some (.int .i64 a) := n_u5.cell a0_u4; have a1_u5 : u5.cell? ⟨w.heap.size, 1, none⟩ = some (.int .i64 f) := n_u5.cell a1_u4; have a2_u5 : u5.cell? ⟨w.heap.size, 2, none⟩ = some (.int .i64 u) := n_u5.cell a2_u4; have r0_u5 : u5.cell? ⟨w.heap.size + 1 + 1, 0, none⟩ = some (.int .i64 0) := n_u5.cell r0_u4; have zr0_u5 : u5.frozen? ⟨w.heap.size + 1 + 1, 0, none⟩ = false := n_u5.frz r0_u4 zr0_u4; have r1_u5 : u5.cell? ⟨w.heap.size + 1 + 1, 1, none⟩ = some (.int .i64 0) := n_u5.cell r1_u4; have zr1_u5 : u5.frozen? ⟨w.heap.size + 1 + 1, 1, none⟩ = false := n_u5.frz r1_u4 zr1_u4; have t0_u5 : u5.cell? ⟨w4.heap.size, 0, none⟩ = some (.int .i64 p) := n_u5.cell t0_u4; have t1_u5 : u5.cell? ⟨w4.heap.size, 1, none⟩ = some (.int .i64 q) := n_u5.cell t1_u4;  skip))
  have K_u4 := Lib.hid (show New v5 u4 from n_u4); clear n_u4
  have K_u5 := Lib.hid (show New u4 u5 from n_u5); clear n_u5
  obtain ⟨_, _, zt0_u5, zt1_u5⟩ := pair_kept (K_u4.out.trans K_u5.out) ⟨t0_v5, t1_v5, zt0_v5, zt1_v5⟩
  have NC := Lib.hid (((NB.out.trans K_u4.out).trans K_u5.out))
  have zc := NC.out.size
  have zt : w4.heap.size < u5.heap.size := World.block_lt_of_cell? _ _ t0_u5
  clear a0_v5 a1_v5 a2_v5 r0_v5 r1_v5 t0_v5 t1_v5 zt0_v5 zt1_v5 zr0_v5 zr1_v5
  generalize hbb : (decide (p < h * q)) = bb
  cases bb
  · have c1 : ¬ p * 1 < h * q := by have := of_decide_eq_false hbb; omega
    clear hbb
    rw [if_neg c1] at RE
    have e1 : r = p := congrArg Prod.fst RE.out
    have e2 : s = q := congrArg Prod.snd RE.out
    rw [e1, e2] at RC PF
    rw [e2] at p4 p6 p7
    rw [e1] at p5
    clear e1 e2 RE
    have NX := NC
    go_upto_region 6 with fail
    go_region_held3 (fun w' => w'.cell? ⟨w.heap.size, 0, none⟩ = some (.int .i64 a) ∧ w'.cell? ⟨w.heap.size, 1, none⟩ = some (.int .i64 f) ∧ w'.cell? ⟨w.heap.size, 2, none⟩ = some (.int .i64 u) ∧ w'.cell? ⟨w4.heap.size, 0, none⟩ = some (.int .i64 p) ∧ w'.cell? ⟨w4.heap.size, 1, none⟩ = some (.int .i64 q))
      (first | with_reducible exact ⟨a0_u5, a1_u5, a2_u5, t0_u5, t1_u5⟩ | with_reducible exact ⟨a0_u6, a1_u6, a2_u6, t0_u6, t1_u6⟩ | with_reducible exact ⟨a0_u7, a1_u7, a2_u7, t0_u7, t1_u7⟩ | exact ⟨a0_u5, a1_u5, a2_u5, t0_u5, t1_u5⟩ | fail)
      (first
        | (go_at_call 58; refine (level_any _ a f u OA.out).mono ?_; rintro e u6 ⟨rfl, n_u6⟩; (try replace n_u6 := New.undrew n_u6); have a0_u6 : u6.cell? ⟨w.heap.size, 0, none⟩ = some (.int .i64 a) := n_u6.cell a0_u5; have a1_u6 : u6.cell? ⟨w.heap.size, 1, none⟩ = some (.int .i64 f) := n_u6.cell a1_u5; have a2_u6 : u6.cell? ⟨w.heap.size, 2, none⟩ = some (.int .i64 u) := n_u6.cell a2_u5; have r0_u6 : u6.cell? ⟨w.heap.size + 1 + 1, 0, none⟩ = some (.int .i64 0) := n_u6.cell r0_u5; have zr0_u6 : u6.frozen? ⟨w.heap.size + 1 + 1, 0, none⟩ = false := n_u6.frz r0_u5 zr0_u5; have r1_u6 : u6.cell? ⟨w.heap.size + 1 + 1, 1, none⟩ = some (.int .i64 0) := n_u6.cell r1_u5; have zr1_u6 : u6.frozen? ⟨w.heap.size + 1 + 1, 1, none⟩ = false := n_u6.frz r1_u5 zr1_u5; have t0_u6 : u6.cell? ⟨w4.heap.size, 0, none⟩ = some (.int .i64 p) := n_u6.cell t0_u5; have t1_u6 : u6.cell? ⟨w4.heap.size, 1, none⟩ = some (.int .i64 q) := n_u6.cell t1_u5; rw [EL.out]; skip)
        | (go_at_call 81; refine (isLess_any _ l1 l2 p q (by omega) (by omega) (by omega) (by omega)).mono ?_; rintro e u7 ⟨rfl, n_u7⟩; (try replace n_u7 := New.undrew n_u7); have a0_u7 : u7.cell? ⟨w.heap.size, 0, none⟩ = some (.int .i64 a) := n_u7.cell a0_u6; have a1_u7 : u7.cell? ⟨w.heap.size, 1, none⟩ = some (.int .i64 f) := n_u7.cell a1_u6; have a2_u7 : u7.cell? ⟨w.heap.size, 2, none⟩ = some (.int .i64 u) := n_u7.cell a2_u6; have r0_u7 : u7.cell? ⟨w.heap.size + 1 + 1, 0, none⟩ = some (.int .i64 0) := n_u7.cell r0_u6; have zr0_u7 : u7.frozen? ⟨w.heap.size + 1 + 1, 0, none⟩ = false := n_u7.frz r0_u6 zr0_u6; have r1_u7 : u7.cell? ⟨w.heap.size + 1 + 1, 1, none⟩ = some (.int .i64 0) := n_u7.cell r1_u6; have zr1_u7 : u7.frozen? ⟨w.heap.size + 1 + 1, 1, none⟩ = false := n_u7.frz r1_u6 zr1_u6; have t0_u7 : u7.cell? ⟨w4.heap.size, 0, none⟩ = some (.int .i64 p) := n_u7.cell t0_u6; have t1_u7 : u7.cell? ⟨w4.heap.size, 1, none⟩ = some (.int .i64 q) := n_u7.cell t1_u6;  skip))
    have K_u6 := Lib.hid (show New u5 u6 from n_u6); clear n_u6
    have K_u7 := Lib.hid (show New u6 u7 from n_u7); clear n_u7
    have ND := Lib.hid (((NX.out.trans K_u6.out).trans K_u7.out))
    have zd := ND.out.size
    have zt2 : w4.heap.size < u7.heap.size := World.block_lt_of_cell? _ _ t0_u7
    generalize hb2 : (decide (l1 * q < p * l2)) = b2
    cases b2
    · have c2 : ¬ l1 * q < p * l2 := by have := of_decide_eq_false hb2; omega
      clear hb2
      rw [if_neg c2] at PF
      have YB := Lib.hid (red_le (n := l1 * q - p * l2) (show 0 < l2 * q by omega))
      have YP := Lib.hid (red_pos (n := l1 * q - p * l2) (show 0 < l2 * q by omega))
      obtain ⟨Y, hY⟩ : ∃ Y, Y = red (l1 * q - p * l2) (l2 * q) := ⟨_, rfl⟩
      have EY := Lib.hid (show red (l1 * q - p * l2) (l2 * q) = Y from hY.symm)
      rw [← hY] at YB YP PF
      clear hY
      obtain ⟨y1, y2⟩ := Y
      have yb := YB.out; have yp := YP.out
      simp only at yb yp PF
      have yb1 := yb.1
      have yb2 := yb.2.1 (by omega)
      clear yb YB YP
      have ym := mul_bd yb2.1 (show y1 ≤ 100000000 by omega) (show 0 ≤ a by omega) a2
      obtain ⟨ym1, ym2⟩ := ym
      obtain ⟨yb2a, yb2b⟩ := yb2
      obtain ⟨z, hz⟩ : ∃ z, z = red (y1 * a) y2 := ⟨_, rfl⟩
      have EZ := Lib.hid (show red (y1 * a) y2 = z from hz.symm)
      rw [← hz] at PF
      clear hz
      go_upto_region 8 with fail
      go_region_held3 (fun w' => w'.cell? ⟨w.heap.size, 0, none⟩ = some (.int .i64 a) ∧ w'.cell? ⟨w.heap.size, 1, none⟩ = some (.int .i64 f) ∧ w'.cell? ⟨w.heap.size, 2, none⟩ = some (.int .i64 u) ∧ w'.cell? ⟨w4.heap.size, 0, none⟩ = some (.int .i64 p) ∧ w'.cell? ⟨w4.heap.size, 1, none⟩ = some (.int .i64 q))
        (first | with_reducible exact ⟨a0_u7, a1_u7, a2_u7, t0_u7, t1_u7⟩ | with_reducible exact ⟨a0_u8, a1_u8, a2_u8, t0_u8, t1_u8⟩ | with_reducible exact ⟨a0_u9, a1_u9, a2_u9, t0_u9, t1_u9⟩ | with_reducible exact ⟨a0_u10, a1_u10, a2_u10, t0_u10, t1_u10⟩ | with_reducible exact ⟨World.cell_set (World.cell_set (a0_u10) (by simp; try omega)) (by simp; try omega), World.cell_set (World.cell_set (a1_u10) (by simp; try omega)) (by simp; try omega), World.cell_set (World.cell_set (a2_u10) (by simp; try omega)) (by simp; try omega), World.cell_set (World.cell_set (t0_u10) (by simp; try omega)) (by simp; try omega), World.cell_set (World.cell_set (t1_u10) (by simp; try omega)) (by simp; try omega)⟩ | exact ⟨a0_u7, a1_u7, a2_u7, t0_u7, t1_u7⟩ | fail)
        (first
          | (go_at_call 58; refine (level_any _ a f u OA.out).mono ?_; rintro e u8 ⟨rfl, n_u8⟩; (try replace n_u8 := New.undrew n_u8); have a0_u8 : u8.cell? ⟨w.heap.size, 0, none⟩ = some (.int .i64 a) := n_u8.cell a0_u7; have a1_u8 : u8.cell? ⟨w.heap.size, 1, none⟩ = some (.int .i64 f) := n_u8.cell a1_u7; have a2_u8 : u8.cell? ⟨w.heap.size, 2, none⟩ = some (.int .i64 u) := n_u8.cell a2_u7; have r0_u8 : u8.cell? ⟨w.heap.size + 1 + 1, 0, none⟩ = some (.int .i64 0) := n_u8.cell r0_u7; have zr0_u8 : u8.frozen? ⟨w.heap.size + 1 + 1, 0, none⟩ = false := n_u8.frz r0_u7 zr0_u7; have r1_u8 : u8.cell? ⟨w.heap.size + 1 + 1, 1, none⟩ = some (.int .i64 0) := n_u8.cell r1_u7; have zr1_u8 : u8.frozen? ⟨w.heap.size + 1 + 1, 1, none⟩ = false := n_u8.frz r1_u7 zr1_u7; have t0_u8 : u8.cell? ⟨w4.heap.size, 0, none⟩ = some (.int .i64 p) := n_u8.cell t0_u7; have t1_u8 : u8.cell? ⟨w4.heap.size, 1, none⟩ = some (.int .i64 q) := n_u8.cell t1_u7; rw [EL.out]; skip)
          | (go_at_call 52; refine (minus_any _ l1 l2 p q (by omega) (by omega) RC.out (by omega) (by omega) (by omega) (by omega) (by omega) (by omega) (by omega) (by omega)).mono ?_; rintro e u9 ⟨rfl, n_u9⟩; (try replace n_u9 := New.undrew n_u9); have a0_u9 : u9.cell? ⟨w.heap.size, 0, none⟩ = some (.int .i64 a) := n_u9.cell a0_u8; have a1_u9 : u9.cell? ⟨w.heap.size, 1, none⟩ = some (.int .i64 f) := n_u9.cell a1_u8; have a2_u9 : u9.cell? ⟨w.heap.size, 2, none⟩ = some (.int .i64 u) := n_u9.cell a2_u8; have r0_u9 : u9.cell? ⟨w.heap.size + 1 + 1, 0, none⟩ = some (.int .i64 0) := n_u9.cell r0_u8; have zr0_u9 : u9.frozen? ⟨w.heap.size + 1 + 1, 0, none⟩ = false := n_u9.frz r0_u8 zr0_u8; have r1_u9 : u9.cell? ⟨w.heap.size + 1 + 1, 1, none⟩ = some (.int .i64 0) := n_u9.cell r1_u8; have zr1_u9 : u9.frozen? ⟨w.heap.size + 1 + 1, 1, none⟩ = false := n_u9.frz r1_u8 zr1_u8; have t0_u9 : u9.cell? ⟨w4.heap.size, 0, none⟩ = some (.int .i64 p) := n_u9.cell t0_u8; have t1_u9 : u9.cell? ⟨w4.heap.size, 1, none⟩ = some (.int .i64 q) := n_u9.cell t1_u8; rw [EY.out]; skip)
          | (go_at_call 77; refine (times_any _ y1 y2 a yp (by omega) (by omega) (by omega)).mono ?_; rintro e u10 ⟨rfl, n_u10⟩; (try replace n_u10 := New.undrew n_u10); have a0_u10 : u10.cell? ⟨w.heap.size, 0, none⟩ = some (.int .i64 a) := n_u10.cell a0_u9; have a1_u10 : u10.cell? ⟨w.heap.size, 1, none⟩ = some (.int .i64 f) := n_u10.cell a1_u9; have a2_u10 : u10.cell? ⟨w.heap.size, 2, none⟩ = some (.int .i64 u) := n_u10.cell a2_u9; have r0_u10 : u10.cell? ⟨w.heap.size + 1 + 1, 0, none⟩ = some (.int .i64 0) := n_u10.cell r0_u9; have zr0_u10 : u10.frozen? ⟨w.heap.size + 1 + 1, 0, none⟩ = false := n_u10.frz r0_u9 zr0_u9; have r1_u10 : u10.cell? ⟨w.heap.size + 1 + 1, 1, none⟩ = some (.int .i64 0) := n_u10.cell r1_u9; have zr1_u10 : u10.frozen? ⟨w.heap.size + 1 + 1, 1, none⟩ = false := n_u10.frz r1_u9 zr1_u9; have t0_u10 : u10.cell? ⟨w4.heap.size, 0, none⟩ = some (.int .i64 p) := n_u10.cell t0_u9; have t1_u10 : u10.cell? ⟨w4.heap.size, 1, none⟩ = some (.int .i64 q) := n_u10.cell t1_u9; rw [EZ.out]; skip))
      have K_u8 := Lib.hid (show New u7 u8 from n_u8); clear n_u8
      have K_u9 := Lib.hid (show New u8 u9 from n_u9); clear n_u9
      have K_u10 := Lib.hid (show New u9 u10 from n_u10); clear n_u10
      go_wp2
      refine bodyPost_ret (v := ratV z) (by simp [results, Try.results57, go_sem, r0_u10, r1_u10]) rfl ⟨by rw [← TH.out, PF.out], ?_⟩
      have := (((ND.out.trans K_u8.out).trans K_u9.out).trans K_u10.out)
      (repeat (first | with_reducible exact New.refl _ | with_reducible assumption | refine New.drewN ?_ _ | refine New.drew ?_ | refine New.alloc ?_ _ | refine New.setCell ?_ (by first | omega | (simp; omega) | (simp; done)) _ | (refine New.trans ?_ (by assumption))))
    · have c2 : l1 * q < p * l2 := by have := of_decide_eq_true hb2; omega
      clear hb2
      rw [if_pos c2] at PF
      go_wp2_with fail
      refine (wholeRatio_any _ 0).mono ?_
      rintro e w9 ⟨rfl, n9⟩
      obtain ⟨s0, s1, y0, y1⟩ := pair_kept n9 ⟨r0_u7, r1_u7, zr0_u7, zr1_u7⟩
      have N9 := Lib.hid (ND.out.trans n9); clear n9
      go_wp2
      refine bodyPost_ret (v := ratV (0, 1)) (by simp [results, Try.results57, go_sem, s0, s1]) rfl ⟨by rw [← TH.out, PF.out], ?_⟩
      have := N9.out
      (repeat (first | with_reducible exact New.refl _ | with_reducible assumption | refine New.drewN ?_ _ | refine New.drew ?_ | refine New.alloc ?_ _ | refine New.setCell ?_ (by first | omega | (simp; omega) | (simp; done)) _ | (refine New.trans ?_ (by assumption))))
  · have c1 : p * 1 < h * q := by have := of_decide_eq_true hbb; omega
    clear hbb
    rw [if_pos c1] at RE
    have e1 : r = h := congrArg Prod.fst RE.out
    have e2 : s = 1 := congrArg Prod.snd RE.out
    rw [e1, e2] at RC PF
    rw [e2] at p4 p6 p7
    rw [e1] at p5
    clear e1 e2 RE
    go_wp2_with fail
    refine (wholeRatio_any _ h).mono ?_
    rintro e x6 ⟨rfl, n6⟩
    obtain ⟨q0, q1, q2, q3⟩ := pair_kept n6 ⟨t0_u5, t1_u5, zt0_u5, zt1_u5⟩
    obtain ⟨s0, s1, y0, y1⟩ := pair_kept n6 ⟨r0_u5, r1_u5, zr0_u5, zr1_u5⟩
    have d0 := n6.cell (a0_u5)
    have d1 := n6.cell a1_u5
    have d2 := n6.cell a2_u5
    have M6 := Lib.hid (NC.out.trans n6)
    have z6 := n6.size
    clear n6
    go_upto_region 6 with fail
    obtain ⟨v7, hv7⟩ : ∃ xx : World, xx = (x6.setCell ⟨w4.heap.size, 0, none⟩ (.int .i64 h)).setCell ⟨w4.heap.size, 1, none⟩ (.int .i64 1) := ⟨_, rfl⟩
    rw [← hv7]
    have nt : ∀ (i j : Nat), (⟨w.heap.size, i, none⟩ : Addr).block ≠ (⟨w4.heap.size, j, none⟩ : Addr).block := fun i j => by simp; omega
    have nr : ∀ (i j : Nat), (⟨w.heap.size + 1 + 1, i, none⟩ : Addr).block ≠ (⟨w4.heap.size, j, none⟩ : Addr).block := fun i j => by simp; omega
    have a0_v7 : v7.cell? ⟨w.heap.size, 0, none⟩ = some (.int .i64 a) := by rw [hv7]; exact World.cell_set (World.cell_set d0 (nt _ _)) (nt _ _)
    have a1_v7 : v7.cell? ⟨w.heap.size, 1, none⟩ = some (.int .i64 f) := by rw [hv7]; exact World.cell_set (World.cell_set d1 (nt _ _)) (nt _ _)
    have a2_v7 : v7.cell? ⟨w.heap.size, 2, none⟩ = some (.int .i64 u) := by rw [hv7]; exact World.cell_set (World.cell_set d2 (nt _ _)) (nt _ _)
    have r0_v7 : v7.cell? ⟨w.heap.size + 1 + 1, 0, none⟩ = some (.int .i64 0) := by rw [hv7]; exact World.cell_set (World.cell_set s0 (nr _ _)) (nr _ _)
    have r1_v7 : v7.cell? ⟨w.heap.size + 1 + 1, 1, none⟩ = some (.int .i64 0) := by rw [hv7]; exact World.cell_set (World.cell_set s1 (nr _ _)) (nr _ _)
    have zr0_v7 : v7.frozen? ⟨w.heap.size + 1 + 1, 0, none⟩ = false := by rw [hv7]; simpa using y0
    have zr1_v7 : v7.frozen? ⟨w.heap.size + 1 + 1, 1, none⟩ = false := by rw [hv7]; simpa using y1
    have t0_v7 : v7.cell? ⟨w4.heap.size, 0, none⟩ = some (.int .i64 h) := by rw [hv7]; exact (set_other (by simp)).trans (set_same q0)
    have t1_v7 : v7.cell? ⟨w4.heap.size, 1, none⟩ = some (.int .i64 1) := by rw [hv7]; exact set_same ((set_other (by simp)).trans q1)
    have NX := Lib.hid (show New w v7 by rw [hv7]; exact (M6.out.setCell (by simp only; omega) _).setCell (by simp only; omega) _)
    clear hv7 nt nr d0 d1 d2 s0 s1 y0 y1 q0 q1 q2 q3
    go_region_held3 (fun w' => w'.cell? ⟨w.heap.size, 0, none⟩ = some (.int .i64 a) ∧ w'.cell? ⟨w.heap.size, 1, none⟩ = some (.int .i64 f) ∧ w'.cell? ⟨w.heap.size, 2, none⟩ = some (.int .i64 u) ∧ w'.cell? ⟨w4.heap.size, 0, none⟩ = some (.int .i64 h) ∧ w'.cell? ⟨w4.heap.size, 1, none⟩ = some (.int .i64 1))
      (first | with_reducible exact ⟨a0_v7, a1_v7, a2_v7, t0_v7, t1_v7⟩ | with_reducible exact ⟨a0_u11, a1_u11, a2_u11, t0_u11, t1_u11⟩ | with_reducible exact ⟨a0_u12, a1_u12, a2_u12, t0_u12, t1_u12⟩ | exact ⟨a0_v7, a1_v7, a2_v7, t0_v7, t1_v7⟩ | fail)
      (first
        | (go_at_call 58; refine (level_any _ a f u OA.out).mono ?_; rintro e u11 ⟨rfl, n_u11⟩; (try replace n_u11 := New.undrew n_u11); have a0_u11 : u11.cell? ⟨w.heap.size, 0, none⟩ = some (.int .i64 a) := n_u11.cell a0_v7; have a1_u11 : u11.cell? ⟨w.heap.size, 1, none⟩ = some (.int .i64 f) := n_u11.cell a1_v7; have a2_u11 : u11.cell? ⟨w.heap.size, 2, none⟩ = some (.int .i64 u) := n_u11.cell a2_v7; have r0_u11 : u11.cell? ⟨w.heap.size + 1 + 1, 0, none⟩ = some (.int .i64 0) := n_u11.cell r0_v7; have zr0_u11 : u11.frozen? ⟨w.heap.size + 1 + 1, 0, none⟩ = false := n_u11.frz r0_v7 zr0_v7; have r1_u11 : u11.cell? ⟨w.heap.size + 1 + 1, 1, none⟩ = some (.int .i64 0) := n_u11.cell r1_v7; have zr1_u11 : u11.frozen? ⟨w.heap.size + 1 + 1, 1, none⟩ = false := n_u11.frz r1_v7 zr1_v7; have t0_u11 : u11.cell? ⟨w4.heap.size, 0, none⟩ = some (.int .i64 h) := n_u11.cell t0_v7; have t1_u11 : u11.cell? ⟨w4.heap.size, 1, none⟩ = some (.int .i64 1) := n_u11.cell t1_v7; rw [EL.out]; skip)
        | (go_at_call 81; refine (isLess_any _ l1 l2 h 1 (by omega) (by omega) (by omega) (by omega)).mono ?_; rintro e u12 ⟨rfl, n_u12⟩; (try replace n_u12 := New.undrew n_u12); have a0_u12 : u12.cell? ⟨w.heap.size, 0, none⟩ = some (.int .i64 a) := n_u12.cell a0_u11; have a1_u12 : u12.cell? ⟨w.heap.size, 1, none⟩ = some (.int .i64 f) := n_u12.cell a1_u11; have a2_u12 : u12.cell? ⟨w.heap.size, 2, none⟩ = some (.int .i64 u) := n_u12.cell a2_u11; have r0_u12 : u12.cell? ⟨w.heap.size + 1 + 1, 0, none⟩ = some (.int .i64 0) := n_u12.cell r0_u11; have zr0_u12 : u12.frozen? ⟨w.heap.size + 1 + 1, 0, none⟩ = false := n_u12.frz r0_u11 zr0_u11; have r1_u12 : u12.cell? ⟨w.heap.size + 1 + 1, 1, none⟩ = some (.int .i64 0) := n_u12.cell r1_u11; have zr1_u12 : u12.frozen? ⟨w.heap.size + 1 + 1, 1, none⟩ = false := n_u12.frz r1_u11 zr1_u11; have t0_u12 : u12.cell? ⟨w4.heap.size, 0, none⟩ = some (.int .i64 h) := n_u12.cell t0_u11; have t1_u12 : u12.cell? ⟨w4.heap.size, 1, none⟩ = some (.int .i64 1) := n_u12.cell t1_u11;  skip))
    have K_u11 := Lib.hid (show New v7 u11 from n_u11); clear n_u11
    have K_u12 := Lib.hid (show New u11 u12 from n_u12); clear n_u12
    have ND := Lib.hid (((NX.out.trans K_u11.out).trans K_u12.out))
    have zd := ND.out.size
    have zt2 : w4.heap.size < u12.heap.size := World.block_lt_of_cell? _ _ t0_u12
    generalize hb2 : (decide (l1 < h * l2)) = b2
    cases b2
    · have c2 : ¬ l1 * 1 < h * l2 := by have := of_decide_eq_false hb2; omega
      clear hb2
      rw [if_neg c2] at PF
      have YB := Lib.hid (red_le (n := l1 * 1 - h * l2) (show 0 < l2 * 1 by omega))
      have YP := Lib.hid (red_pos (n := l1 * 1 - h * l2) (show 0 < l2 * 1 by omega))
      obtain ⟨Y, hY⟩ : ∃ Y, Y = red (l1 * 1 - h * l2) (l2 * 1) := ⟨_, rfl⟩
      have EY := Lib.hid (show red (l1 * 1 - h * l2) (l2 * 1) = Y from hY.symm)
      rw [← hY] at YB YP PF
      clear hY
      obtain ⟨y1, y2⟩ := Y
      have yb := YB.out; have yp := YP.out
      simp only at yb yp PF
      have yb1 := yb.1
      have yb2 := yb.2.1 (by omega)
      clear yb YB YP
      have ym := mul_bd yb2.1 (show y1 ≤ 100000000 by omega) (show 0 ≤ a by omega) a2
      obtain ⟨ym1, ym2⟩ := ym
      obtain ⟨yb2a, yb2b⟩ := yb2
      obtain ⟨z, hz⟩ : ∃ z, z = red (y1 * a) y2 := ⟨_, rfl⟩
      have EZ := Lib.hid (show red (y1 * a) y2 = z from hz.symm)
      rw [← hz] at PF
      clear hz
      go_upto_region 8 with fail
      go_region_held3 (fun w' => w'.cell? ⟨w.heap.size, 0, none⟩ = some (.int .i64 a) ∧ w'.cell? ⟨w.heap.size, 1, none⟩ = some (.int .i64 f) ∧ w'.cell? ⟨w.heap.size, 2, none⟩ = some (.int .i64 u) ∧ w'.cell? ⟨w4.heap.size, 0, none⟩ = some (.int .i64 h) ∧ w'.cell? ⟨w4.heap.size, 1, none⟩ = some (.int .i64 1))
        (first | with_reducible exact ⟨a0_u12, a1_u12, a2_u12, t0_u12, t1_u12⟩ | with_reducible exact ⟨a0_u13, a1_u13, a2_u13, t0_u13, t1_u13⟩ | with_reducible exact ⟨a0_u14, a1_u14, a2_u14, t0_u14, t1_u14⟩ | with_reducible exact ⟨a0_u15, a1_u15, a2_u15, t0_u15, t1_u15⟩ | with_reducible exact ⟨World.cell_set (World.cell_set (a0_u15) (by simp; try omega)) (by simp; try omega), World.cell_set (World.cell_set (a1_u15) (by simp; try omega)) (by simp; try omega), World.cell_set (World.cell_set (a2_u15) (by simp; try omega)) (by simp; try omega), World.cell_set (World.cell_set (t0_u15) (by simp; try omega)) (by simp; try omega), World.cell_set (World.cell_set (t1_u15) (by simp; try omega)) (by simp; try omega)⟩ | exact ⟨a0_u12, a1_u12, a2_u12, t0_u12, t1_u12⟩ | fail)
        (first
          | (go_at_call 58; refine (level_any _ a f u OA.out).mono ?_; rintro e u13 ⟨rfl, n_u13⟩; (try replace n_u13 := New.undrew n_u13); have a0_u13 : u13.cell? ⟨w.heap.size, 0, none⟩ = some (.int .i64 a) := n_u13.cell a0_u12; have a1_u13 : u13.cell? ⟨w.heap.size, 1, none⟩ = some (.int .i64 f) := n_u13.cell a1_u12; have a2_u13 : u13.cell? ⟨w.heap.size, 2, none⟩ = some (.int .i64 u) := n_u13.cell a2_u12; have r0_u13 : u13.cell? ⟨w.heap.size + 1 + 1, 0, none⟩ = some (.int .i64 0) := n_u13.cell r0_u12; have zr0_u13 : u13.frozen? ⟨w.heap.size + 1 + 1, 0, none⟩ = false := n_u13.frz r0_u12 zr0_u12; have r1_u13 : u13.cell? ⟨w.heap.size + 1 + 1, 1, none⟩ = some (.int .i64 0) := n_u13.cell r1_u12; have zr1_u13 : u13.frozen? ⟨w.heap.size + 1 + 1, 1, none⟩ = false := n_u13.frz r1_u12 zr1_u12; have t0_u13 : u13.cell? ⟨w4.heap.size, 0, none⟩ = some (.int .i64 h) := n_u13.cell t0_u12; have t1_u13 : u13.cell? ⟨w4.heap.size, 1, none⟩ = some (.int .i64 1) := n_u13.cell t1_u12; rw [EL.out]; skip)
          | (go_at_call 52; refine (minus_any _ l1 l2 h 1 (by omega) (by omega) RC.out (by omega) (by omega) (by omega) (by omega) (by omega) (by omega) (by omega) (by omega)).mono ?_; rintro e u14 ⟨rfl, n_u14⟩; (try replace n_u14 := New.undrew n_u14); have a0_u14 : u14.cell? ⟨w.heap.size, 0, none⟩ = some (.int .i64 a) := n_u14.cell a0_u13; have a1_u14 : u14.cell? ⟨w.heap.size, 1, none⟩ = some (.int .i64 f) := n_u14.cell a1_u13; have a2_u14 : u14.cell? ⟨w.heap.size, 2, none⟩ = some (.int .i64 u) := n_u14.cell a2_u13; have r0_u14 : u14.cell? ⟨w.heap.size + 1 + 1, 0, none⟩ = some (.int .i64 0) := n_u14.cell r0_u13; have zr0_u14 : u14.frozen? ⟨w.heap.size + 1 + 1, 0, none⟩ = false := n_u14.frz r0_u13 zr0_u13; have r1_u14 : u14.cell? ⟨w.heap.size + 1 + 1, 1, none⟩ = some (.int .i64 0) := n_u14.cell r1_u13; have zr1_u14 : u14.frozen? ⟨w.heap.size + 1 + 1, 1, none⟩ = false := n_u14.frz r1_u13 zr1_u13; have t0_u14 : u14.cell? ⟨w4.heap.size, 0, none⟩ = some (.int .i64 h) := n_u14.cell t0_u13; have t1_u14 : u14.cell? ⟨w4.heap.size, 1, none⟩ = some (.int .i64 1) := n_u14.cell t1_u13; rw [EY.out]; skip)
          | (go_at_call 77; refine (times_any _ y1 y2 a yp (by omega) (by omega) (by omega)).mono ?_; rintro e u15 ⟨rfl, n_u15⟩; (try replace n_u15 := New.undrew n_u15); have a0_u15 : u15.cell? ⟨w.heap.size, 0, none⟩ = some (.int .i64 a) := n_u15.cell a0_u14; have a1_u15 : u15.cell? ⟨w.heap.size, 1, none⟩ = some (.int .i64 f) := n_u15.cell a1_u14; have a2_u15 : u15.cell? ⟨w.heap.size, 2, none⟩ = some (.int .i64 u) := n_u15.cell a2_u14; have r0_u15 : u15.cell? ⟨w.heap.size + 1 + 1, 0, none⟩ = some (.int .i64 0) := n_u15.cell r0_u14; have zr0_u15 : u15.frozen? ⟨w.heap.size + 1 + 1, 0, none⟩ = false := n_u15.frz r0_u14 zr0_u14; have r1_u15 : u15.cell? ⟨w.heap.size + 1 + 1, 1, none⟩ = some (.int .i64 0) := n_u15.cell r1_u14; have zr1_u15 : u15.frozen? ⟨w.heap.size + 1 + 1, 1, none⟩ = false := n_u15.frz r1_u14 zr1_u14; have t0_u15 : u15.cell? ⟨w4.heap.size, 0, none⟩ = some (.int .i64 h) := n_u15.cell t0_u14; have t1_u15 : u15.cell? ⟨w4.heap.size, 1, none⟩ = some (.int .i64 1) := n_u15.cell t1_u14; rw [EZ.out]; skip))
      have K_u13 := Lib.hid (show New u12 u13 from n_u13); clear n_u13
      have K_u14 := Lib.hid (show New u13 u14 from n_u14); clear n_u14
      have K_u15 := Lib.hid (show New u14 u15 from n_u15); clear n_u15
      go_wp2
      refine bodyPost_ret (v := ratV z) (by simp [results, Try.results57, go_sem, r0_u15, r1_u15]) rfl ⟨by rw [← TH.out, PF.out], ?_⟩
      have := (((ND.out.trans K_u13.out).trans K_u14.out).trans K_u15.out)
      (repeat (first | with_reducible exact New.refl _ | with_reducible assumption | refine New.drewN ?_ _ | refine New.drew ?_ | refine New.alloc ?_ _ | refine New.setCell ?_ (by first | omega | (simp; omega) | (simp; done)) _ | (refine New.trans ?_ (by assumption))))
    · have c2 : l1 * 1 < h * l2 := by have := of_decide_eq_true hb2; omega
      clear hb2
      rw [if_pos c2] at PF
      go_wp2_with fail
      refine (wholeRatio_any _ 0).mono ?_
      rintro e w9 ⟨rfl, n9⟩
      obtain ⟨s0, s1, y0, y1⟩ := pair_kept n9 ⟨r0_u12, r1_u12, zr0_u12, zr1_u12⟩
      have N9 := Lib.hid (ND.out.trans n9); clear n9
      go_wp2
      refine bodyPost_ret (v := ratV (0, 1)) (by simp [results, Try.results57, go_sem, s0, s1]) rfl ⟨by rw [← TH.out, PF.out], ?_⟩
      have := N9.out
      (repeat (first | with_reducible exact New.refl _ | with_reducible assumption | refine New.drewN ?_ _ | refine New.drew ?_ | refine New.alloc ?_ _ | refine New.setCell ?_ (by first | omega | (simp; omega) | (simp; done)) _ | (refine New.trans ?_ (by assumption))))
end Go.Proofs.Ytkhniokfpmhonaa
