/- What flows through a pipe: the model's. -/
import Derived.Test.YtkhniokfpmhonaaPip1
import Derived.Test.YtkhniokfpmhonaaSm
import Derived.Test.YtkhniokfpmhonaaCutB
namespace Go.Proofs.Ytkhniokfpmhonaa
open Go.RowKit Go.IntWalk

theorem lvR_bd {t : Tk} (h : TkOk t) : 0 ≤ (lvR t).1 ∧ (lvR t).1 ≤ 15000 ∧ 1 ≤ (lvR t).2 ∧ (lvR t).2 ≤ 50 := by
  have a1 := h.a1; have a2 := h.a2; have f1 := h.f1; have f2 := h.f2; have w1 := h.w1; have w2 := h.w2
  have hm := mul_bd (show 0 ≤ t.1 by omega) a2 f1 f2
  have hr := red_le (n := t.1 * t.2.1 + t.2.2) (show 0 < t.1 by omega)
  have hp := red_pos (n := t.1 * t.2.1 + t.2.2) (show 0 < t.1 by omega)
  have h1 := hr.2.1 (by omega)
  unfold lvR
  omega

set_option maxRecDepth 100000 in
set_option maxHeartbeats 4000000 in
theorem leThrough_any (w : World) (a f u b g v h : Int) (ok : PipeOk (a, f, u) (b, g, v) h) :
    Calls Try.prog 80 #[tkV a f u, tkV b g v, .int .i64 h] w fun e w' => e = .returned (ratV (thrR (a, f, u) (b, g, v) h)) ∧ New w w' := by
  have OA := Lib.hid ok.a
  have OB := Lib.hid ok.b
  have h0 := ok.h0; have h1 := ok.h1
  have a1 := ok.a.a1; have a2 := ok.a.a2; have f1 := ok.a.f1; have f2 := ok.a.f2; have wu1 := ok.a.w1; have wu2 := ok.a.w2
  have b1 := ok.b.a1; have b2 := ok.b.a2; have g1 := ok.b.f1; have g2 := ok.b.f2; have v1 := ok.b.w1; have v2 := ok.b.w2
  simp only at a1 a2 f1 f2 wu1 wu2 b1 b2 g1 g2 v1 v2
  have m1 := mul_bd f1 f2 (show 0 ≤ a by omega) a2
  have m2 := mul_bd g1 g2 (show 0 ≤ b by omega) b2
  have m3 := mul_bd h0 h1 (show 0 ≤ a by omega) a2
  have m4 := mul_bd h0 h1 (show 0 ≤ b by omega) b2
  obtain ⟨m1a, m1b⟩ := m1
  obtain ⟨m2a, m2b⟩ := m2
  obtain ⟨m3a, m3b⟩ := m3
  obtain ⟨m4a, m4b⟩ := m4
  have hf := ok.f; have hg := ok.g
  simp only at hf hg
  have lb := lvR_bd ok.a
  obtain ⟨L, hL⟩ : ∃ L, L = lvR (a, f, u) := ⟨_, rfl⟩
  have EL := Lib.hid (show red (a * f + u) a = L from hL.symm)
  have NA := Lib.hid (show numT (a, f, u) = f * a + u by unfold numT; simp only; rw [Int.mul_comm])
  have NB := Lib.hid (show numT (b, g, v) = g * b + v by unfold numT; simp only; rw [Int.mul_comm])
  have TH := Lib.hid (show thrR (a, f, u) (b, g, v) h = if ¬ h * L.2 < L.1 * 1 then (0, 1) else if g * b + v + (f * a + u - h * a) ≤ h * b then red (f * a + u - h * a) 1 else red (u * (upR (red (f * a + u + g * b + v) (a + b)).1 (red (f * a + u + g * b + v) (a + b)).2 (a, f, u)).2 - (upR (red (f * a + u + g * b + v) (a + b)).1 (red (f * a + u + g * b + v) (a + b)).2 (a, f, u)).1) (upR (red (f * a + u + g * b + v) (a + b)).1 (red (f * a + u + g * b + v) (a + b)).2 (a, f, u)).2 by
    rw [hL]; unfold thrR; rw [NA.out, NB.out, show f * a + u + (g * b + v) = f * a + u + g * b + v by omega]; rfl)
  rw [← hL] at lb
  clear hL ok
  obtain ⟨l1, l2⟩ := L
  simp only at lb
  obtain ⟨lb1, lb2, lb3, lb4⟩ := lb
  have m5 := mul_bd h0 h1 (show 0 ≤ l2 by omega) lb4
  obtain ⟨m5a, m5b⟩ := m5
  simp only at TH
  have TL := Lib.hid (red_pos (n := f * a + u + g * b + v) (show 0 < a + b by omega))
  have TB := Lib.hid (red_le (n := f * a + u + g * b + v) (show 0 < a + b by omega))
  go_enter Try.func80, Try.ntmps80
  go_upto_region 2 with fail
  obtain ⟨v0, hv0⟩ : ∃ xx : World, xx = ((((w.alloc (.cells #[.int .i64 a, .int .i64 f, .int .i64 u] 49)).alloc (.cells #[.int .i64 b, .int .i64 g, .int .i64 v] 49)).alloc (.cells #[.int .i64 0, .int .i64 0] 25)).alloc (.cells #[.int .i64 h, .int .i64 1] 25)) := ⟨_, rfl⟩
  rw [← hv0]
  have a0_v0 : v0.cell? ⟨w.heap.size, 0, none⟩ = some (.int .i64 a) := by rw [hv0]; simp [go_sem]
  have a1_v0 : v0.cell? ⟨w.heap.size, 1, none⟩ = some (.int .i64 f) := by rw [hv0]; simp [go_sem]
  have a2_v0 : v0.cell? ⟨w.heap.size, 2, none⟩ = some (.int .i64 u) := by rw [hv0]; simp [go_sem]
  have b0_v0 : v0.cell? ⟨w.heap.size + 1, 0, none⟩ = some (.int .i64 b) := by rw [hv0]; simp [go_sem]
  have b1_v0 : v0.cell? ⟨w.heap.size + 1, 1, none⟩ = some (.int .i64 g) := by rw [hv0]; simp [go_sem]
  have b2_v0 : v0.cell? ⟨w.heap.size + 1, 2, none⟩ = some (.int .i64 v) := by rw [hv0]; simp [go_sem]
  have r0_v0 : v0.cell? ⟨w.heap.size + 1 + 1, 0, none⟩ = some (.int .i64 0) := by rw [hv0]; simp [go_sem]
  have zr0_v0 : v0.frozen? ⟨w.heap.size + 1 + 1, 0, none⟩ = false := by rw [hv0]; simp [go_sem]
  have r1_v0 : v0.cell? ⟨w.heap.size + 1 + 1, 1, none⟩ = some (.int .i64 0) := by rw [hv0]; simp [go_sem]
  have zr1_v0 : v0.frozen? ⟨w.heap.size + 1 + 1, 1, none⟩ = false := by rw [hv0]; simp [go_sem]
  have t0_v0 : v0.cell? ⟨w.heap.size + 1 + 1 + 1, 0, none⟩ = some (.int .i64 h) := by rw [hv0]; simp [go_sem]
  have t1_v0 : v0.cell? ⟨w.heap.size + 1 + 1 + 1, 1, none⟩ = some (.int .i64 1) := by rw [hv0]; simp [go_sem]
  have N0 := Lib.hid (show New w v0 by rw [hv0]; exact (by repeat (first | with_reducible exact New.refl _ | with_reducible assumption | refine New.drewN ?_ _ | refine New.drew ?_ | refine New.alloc ?_ _ | refine New.setCell ?_ (by first | omega | (simp; omega) | (simp; done)) _ | (refine New.trans ?_ (by assumption)))))
  have zv0 : w.heap.size + 1 + 1 + 1 < v0.heap.size := by rw [hv0]; simp
  clear hv0
  go_region_held3 (fun w' => w'.cell? ⟨w.heap.size, 0, none⟩ = some (.int .i64 a) ∧ w'.cell? ⟨w.heap.size, 1, none⟩ = some (.int .i64 f) ∧ w'.cell? ⟨w.heap.size, 2, none⟩ = some (.int .i64 u) ∧ w'.cell? ⟨w.heap.size + 1 + 1 + 1, 0, none⟩ = some (.int .i64 h) ∧ w'.cell? ⟨w.heap.size + 1 + 1 + 1, 1, none⟩ = some (.int .i64 1))
    (first | with_reducible exact ⟨a0_v0, a1_v0, a2_v0, t0_v0, t1_v0⟩ | with_reducible exact ⟨a0_u1, a1_u1, a2_u1, t0_u1, t1_u1⟩ | with_reducible exact ⟨a0_u2, a1_u2, a2_u2, t0_u2, t1_u2⟩ | exact ⟨a0_v0, a1_v0, a2_v0, t0_v0, t1_v0⟩ | fail)
    (first
      | (go_at_call 79; refine (leLevel_any _ a f u OA.out).mono ?_; rintro e u1 ⟨rfl, n_u1⟩; (try replace n_u1 := New.undrew n_u1); have a0_u1 : u1.cell? ⟨w.heap.size, 0, none⟩ = some (.int .i64 a) := n_u1.cell a0_v0; have a1_u1 : u1.cell? ⟨w.heap.size, 1, none⟩ = some (.int .i64 f) := n_u1.cell a1_v0; have a2_u1 : u1.cell? ⟨w.heap.size, 2, none⟩ = some (.int .i64 u) := n_u1.cell a2_v0; have b0_u1 : u1.cell? ⟨w.heap.size + 1, 0, none⟩ = some (.int .i64 b) := n_u1.cell b0_v0; have b1_u1 : u1.cell? ⟨w.heap.size + 1, 1, none⟩ = some (.int .i64 g) := n_u1.cell b1_v0; have b2_u1 : u1.cell? ⟨w.heap.size + 1, 2, none⟩ = some (.int .i64 v) := n_u1.cell b2_v0; have r0_u1 : u1.cell? ⟨w.heap.size + 1 + 1, 0, none⟩ = some (.int .i64 0) := n_u1.cell r0_v0; have zr0_u1 : u1.frozen? ⟨w.heap.size + 1 + 1, 0, none⟩ = false := n_u1.frz r0_v0 zr0_v0; have r1_u1 : u1.cell? ⟨w.heap.size + 1 + 1, 1, none⟩ = some (.int .i64 0) := n_u1.cell r1_v0; have zr1_u1 : u1.frozen? ⟨w.heap.size + 1 + 1, 1, none⟩ = false := n_u1.frz r1_v0 zr1_v0; have t0_u1 : u1.cell? ⟨w.heap.size + 1 + 1 + 1, 0, none⟩ = some (.int .i64 h) := n_u1.cell t0_v0; have t1_u1 : u1.cell? ⟨w.heap.size + 1 + 1 + 1, 1, none⟩ = some (.int .i64 1) := n_u1.cell t1_v0; rw [EL.out]; skip)
      | (go_at_call 78; refine (leLess_any _ h 1 l1 l2 (by omega) (by omega) (by omega) (by omega)).mono ?_; rintro e u2 ⟨rfl, n_u2⟩; (try replace n_u2 := New.undrew n_u2); have a0_u2 : u2.cell? ⟨w.heap.size, 0, none⟩ = some (.int .i64 a) := n_u2.cell a0_u1; have a1_u2 : u2.cell? ⟨w.heap.size, 1, none⟩ = some (.int .i64 f) := n_u2.cell a1_u1; have a2_u2 : u2.cell? ⟨w.heap.size, 2, none⟩ = some (.int .i64 u) := n_u2.cell a2_u1; have b0_u2 : u2.cell? ⟨w.heap.size + 1, 0, none⟩ = some (.int .i64 b) := n_u2.cell b0_u1; have b1_u2 : u2.cell? ⟨w.heap.size + 1, 1, none⟩ = some (.int .i64 g) := n_u2.cell b1_u1; have b2_u2 : u2.cell? ⟨w.heap.size + 1, 2, none⟩ = some (.int .i64 v) := n_u2.cell b2_u1; have r0_u2 : u2.cell? ⟨w.heap.size + 1 + 1, 0, none⟩ = some (.int .i64 0) := n_u2.cell r0_u1; have zr0_u2 : u2.frozen? ⟨w.heap.size + 1 + 1, 0, none⟩ = false := n_u2.frz r0_u1 zr0_u1; have r1_u2 : u2.cell? ⟨w.heap.size + 1 + 1, 1, none⟩ = some (.int .i64 0) := n_u2.cell r1_u1; have zr1_u2 : u2.frozen? ⟨w.heap.size + 1 + 1, 1, none⟩ = false := n_u2.frz r1_u1 zr1_u1; have t0_u2 : u2.cell? ⟨w.heap.size + 1 + 1 + 1, 0, none⟩ = some (.int .i64 h) := n_u2.cell t0_u1; have t1_u2 : u2.cell? ⟨w.heap.size + 1 + 1 + 1, 1, none⟩ = some (.int .i64 1) := n_u2.cell t1_u1;  skip))
  have K_u1 := Lib.hid (show New v0 u1 from n_u1); clear n_u1
  have K_u2 := Lib.hid (show New u1 u2 from n_u2); clear n_u2
  have zu2 := K_u1.out.size
  have zu3 := K_u2.out.size
  have zr : w.heap.size + 1 + 1 < u2.heap.size := World.block_lt_of_cell? _ _ r0_u2
  have zt : w.heap.size + 1 + 1 + 1 < u2.heap.size := World.block_lt_of_cell? _ _ t0_u2
  have NN := Lib.hid (((N0.out.trans K_u1.out).trans K_u2.out))
  clear a0_v0 a0_u1 a1_v0 a1_u1 a2_v0 a2_u1 b0_v0 b0_u1 b1_v0 b1_u1 b2_v0 b2_u1 r0_v0 r0_u1 r1_v0 r1_u1 t0_v0 t0_u1 t1_v0 t1_u1
  generalize hbb : (!decide (h * l2 < l1)) = bb
  cases bb
  · have c1' : h * l2 < l1 := by simpa using hbb
    clear hbb
    rw [if_neg (by omega)] at TH
    by_cases c2 : g * b + v + (f * a + u - h * a) ≤ h * b
    · rw [if_pos c2] at TH
      go_wp2_with fail
      refine (leRatio_any _ (f * a + u - h * a) 1 (by decide) (by omega) (by omega) (by omega)).mono ?_
      rintro e w3 ⟨rfl, n3⟩
      obtain ⟨s0, s1, y0, y1⟩ := pair_kept n3 ⟨r0_u2, r1_u2, zr0_u2, zr1_u2⟩
      have N3 := Lib.hid (NN.out.trans n3); clear n3
      obtain ⟨p, hp⟩ : ∃ p, p = red (f * a + u - h * a) 1 := ⟨_, rfl⟩
      rw [← hp] at TH ⊢
      clear hp
      go_wp2
      refine bodyPost_ret (v := ratV p) (by simp [results, Try.results80, go_sem, s0, s1]) rfl ⟨by rw [TH.out], ?_⟩
      have := N3.out
      (repeat (first | with_reducible exact New.refl _ | with_reducible assumption | refine New.drewN ?_ _ | refine New.drew ?_ | refine New.alloc ?_ _ | refine New.setCell ?_ (by first | omega | (simp; omega) | (simp; done)) _ | (refine New.trans ?_ (by assumption))))
    · rw [if_neg c2] at TH
      have c2' : h * b < g * b + v + (f * a + u - h * a) := by omega
      go_wp2_with fail
      refine (leRatio_any _ (f * a + u + g * b + v) (a + b) (by omega) (by omega) (by omega) (by omega)).mono ?_
      rintro e w3 ⟨rfl, n3⟩
      obtain ⟨s0, s1, y0, y1⟩ := pair_kept n3 ⟨r0_u2, r1_u2, zr0_u2, zr1_u2⟩
      have d0 := n3.cell a0_u2
      have d1 := n3.cell a1_u2
      have d2 := n3.cell a2_u2
      have N3 := Lib.hid (NN.out.trans n3)
      have z3 := n3.size; clear n3
      obtain ⟨p, hp⟩ : ∃ p, p = red (f * a + u + g * b + v) (a + b) := ⟨_, rfl⟩
      rw [← hp] at TH TL TB ⊢
      clear hp
      obtain ⟨p, q⟩ := p
      have tl := TL.out
      have tb := TB.out
      simp only at tl tb
      have tb2 := tb.2.1 (by omega)
      have tb1 := tb.1
      clear tb
      have LB := Lib.hid (show LvBd (p, q) from ⟨by simp only; omega, by simp only; omega, by simp only; omega, by simp only; omega⟩)
      have UB := Lib.hid (upTo_bd OA.out LB.out)
      have UR := Lib.hid (red_le (n := upTo p q (a, f, u)) (show 0 < q by omega))
      have UP := Lib.hid (red_pos (n := upTo p q (a, f, u)) (show 0 < q by omega))
      clear TL TB
      go_upto_region 8 with fail
      obtain ⟨w4, hw4⟩ : ∃ xx : World, xx = w3.alloc (.cells #[.int .i64 p, .int .i64 q] 25) := ⟨_, rfl⟩
      rw [← hw4]
      have e0 : w4.cell? ⟨w3.heap.size, 0, none⟩ = some (.int .i64 p) := by rw [hw4]; simp [go_sem]
      have e1 : w4.cell? ⟨w3.heap.size, 1, none⟩ = some (.int .i64 q) := by rw [hw4]; simp [go_sem]
      have M4 := Lib.hid (show New w3 w4 by rw [hw4]; exact (by repeat (first | with_reducible exact New.refl _ | with_reducible assumption | refine New.drewN ?_ _ | refine New.drew ?_ | refine New.alloc ?_ _ | refine New.setCell ?_ (by first | omega | (simp; omega) | (simp; done)) _ | (refine New.trans ?_ (by assumption)))))
      clear hw4
      replace d0 := M4.out.cell d0
      replace d1 := M4.out.cell d1
      replace d2 := M4.out.cell d2
      obtain ⟨s0, s1, y0, y1⟩ := pair_kept M4.out ⟨s0, s1, y0, y1⟩
      go_wp2_with fail
      refine (leUp_any _ a f u p q OA.out LB.out).mono ?_
      rintro e w5 ⟨rfl, n5⟩
      obtain ⟨s0, s1, y0, y1⟩ := pair_kept n5 ⟨s0, s1, y0, y1⟩
      replace d2 := n5.cell d2
      have N5 := Lib.hid (N3.out.trans (M4.out.trans n5))
      have z5 := (M4.out.trans n5).size; clear n5 d0 d1
      obtain ⟨x, hx⟩ : ∃ x, x = upR p q (a, f, u) := ⟨_, rfl⟩
      have ub := UB.out
      have ur := UR.out
      have up := UP.out
      (try simp only at ub)
      rw [show red (upTo p q (a, f, u)) q = x from hx.symm] at ur up
      (try simp only at TH)
      rw [← hx] at TH ⊢
      clear hx UB UR UP
      obtain ⟨s, t⟩ := x
      (try simp only at ur); (try simp only at up); (try simp only at TH)
      have ur2 := ur.2.1 (by omega)
      have ur1 := ur.1
      clear ur
      have m6 := mul_bd wu1 wu2 (show 0 ≤ t by omega) (show t ≤ 1000 by omega)
      obtain ⟨m6a, m6b⟩ := m6
      go_upto_region 9 with fail
      obtain ⟨w6, hw6⟩ : ∃ xx : World, xx = w5.alloc (.cells #[.int .i64 s, .int .i64 t] 25) := ⟨_, rfl⟩
      rw [← hw6]
      have i0 : w6.cell? ⟨w5.heap.size, 0, none⟩ = some (.int .i64 s) := by rw [hw6]; simp [go_sem]
      have i1 : w6.cell? ⟨w5.heap.size, 1, none⟩ = some (.int .i64 t) := by rw [hw6]; simp [go_sem]
      have M6 := Lib.hid (show New w5 w6 by rw [hw6]; exact (by repeat (first | with_reducible exact New.refl _ | with_reducible assumption | refine New.drewN ?_ _ | refine New.drew ?_ | refine New.alloc ?_ _ | refine New.setCell ?_ (by first | omega | (simp; omega) | (simp; done)) _ | (refine New.trans ?_ (by assumption)))))
      clear hw6
      replace d2 := M6.out.cell d2
      obtain ⟨s0, s1, y0, y1⟩ := pair_kept M6.out ⟨s0, s1, y0, y1⟩
      go_wp2_with fail
      refine (leRatio_any _ (u * t - s) t (by omega) (by omega) (by omega) (by omega)).mono ?_
      rintro e w7 ⟨rfl, n7⟩
      obtain ⟨s0, s1, y0, y1⟩ := pair_kept n7 ⟨s0, s1, y0, y1⟩
      have N7 := Lib.hid (N5.out.trans (M6.out.trans n7)); clear n7
      obtain ⟨y, hy⟩ : ∃ y, y = red (u * t - s) t := ⟨_, rfl⟩
      rw [← hy] at TH ⊢
      clear hy
      go_wp2
      refine bodyPost_ret (v := ratV y) (by simp [results, Try.results80, go_sem, s0, s1]) rfl ⟨by rw [TH.out], ?_⟩
      have := N7.out
      (repeat (first | with_reducible exact New.refl _ | with_reducible assumption | refine New.drewN ?_ _ | refine New.drew ?_ | refine New.alloc ?_ _ | refine New.setCell ?_ (by first | omega | (simp; omega) | (simp; done)) _ | (refine New.trans ?_ (by assumption))))
  · have c1' : l1 ≤ h * l2 := by simpa using hbb
    clear hbb
    rw [if_pos (by omega)] at TH
    go_wp2
    refine bodyPost_ret (v := ratV (0, 1)) (by simp [results, Try.results80, go_sem, r0_u2, r1_u2]) rfl ⟨by rw [TH.out], ?_⟩
    have := NN.out
    (repeat (first | with_reducible exact New.refl _ | with_reducible assumption | refine New.drewN ?_ _ | refine New.drew ?_ | refine New.alloc ?_ _ | refine New.setCell ?_ (by first | omega | (simp; omega) | (simp; done)) _ | (refine New.trans ?_ (by assumption))))
end Go.Proofs.Ytkhniokfpmhonaa
