/- The program's flow through a pipe; FlowThrough: the model's and the program's. -/
import Derived.Test.YtkhniokfpmhonaaPip3
namespace Go.Proofs.Ytkhniokfpmhonaa
open Go.RowKit Go.IntWalk

set_option maxRecDepth 100000 in
set_option maxHeartbeats 4000000 in
theorem pipeFlow_any (w : World) (a f u b g v h : Int) (ok : PipeOk (a, f, u) (b, g, v) h) :
    Calls Try.prog 57 #[tkV a f u, tkV b g v, .int .i64 h] w fun e w' => e = .returned (ratV (flR (a, f, u) (b, g, v) h)) ∧ New w w' := by
  by_cases hlt : (lvR (a, f, u)).1 * (lvR (b, g, v)).2 < (lvR (b, g, v)).1 * (lvR (a, f, u)).2
  · have OA := Lib.hid ok.a
    have OB := Lib.hid ok.b
    have OK := Lib.hid ok
    have HG := Lib.hid (show ¬ (lvR (b, g, v)).1 * (lvR (a, f, u)).2 < (lvR (a, f, u)).1 * (lvR (b, g, v)).2 by omega)
    have FL := Lib.hid (show flR (a, f, u) (b, g, v) h = (-(thrR (b, g, v) (a, f, u) h).1, (thrR (b, g, v) (a, f, u) h).2) by unfold flR; rw [if_pos hlt])
    have TB := Lib.hid (thr_bd ok.swap)
    have la := lvR_bd ok.a
    have lb := lvR_bd ok.b
    obtain ⟨L, hL⟩ : ∃ L, L = lvR (a, f, u) := ⟨_, rfl⟩
    obtain ⟨M, hM⟩ : ∃ M, M = lvR (b, g, v) := ⟨_, rfl⟩
    have EL := Lib.hid (show red (a * f + u) a = L from hL.symm)
    have EM := Lib.hid (show red (b * g + v) b = M from hM.symm)
    rw [← hL] at la hlt
    rw [← hM] at lb hlt
    clear hL hM ok
    obtain ⟨l1, l2⟩ := L
    obtain ⟨m1, m2⟩ := M
    simp only at la lb hlt
    obtain ⟨la1, la2, la3, la4⟩ := la
    obtain ⟨lb1, lb2, lb3, lb4⟩ := lb
    have p1 := mul_bd la1 la2 (show 0 ≤ m2 by omega) lb4
    have p2 := mul_bd lb1 lb2 (show 0 ≤ l2 by omega) la4
    obtain ⟨T, hT⟩ : ∃ T, T = thrR (b, g, v) (a, f, u) h := ⟨_, rfl⟩
    have ET := Lib.hid (show thrR (b, g, v) (a, f, u) h = T from hT.symm)
    rw [← hT] at FL TB
    clear hT
    obtain ⟨p, q⟩ := T
    have t1 := TB.out.n0; have t2 := TB.out.n1; have t3 := TB.out.d0; have t4 := TB.out.d1
    simp only at t1 t2 t3 t4 FL
    have ER := Lib.hid (show red (p * -1) q = (-p, q) by
      rw [Int.mul_neg, Int.mul_one]
      refine red_of_cop ?_
      rw [Int.neg_gcd]; exact TB.out.cop)
    go_enter Try.func57, Try.ntmps57
    go_upto_region 1 with fail
    obtain ⟨v0, hv0⟩ : ∃ xx : World, xx = (((w.alloc (.cells #[.int .i64 a, .int .i64 f, .int .i64 u] 49)).alloc (.cells #[.int .i64 b, .int .i64 g, .int .i64 v] 49)).alloc (.cells #[.int .i64 0, .int .i64 0] 25)) := ⟨_, rfl⟩
    rw [← hv0]
    have a0_v0 : v0.cell? ⟨w.heap.size, 0, none⟩ = some (.int .i64 a) := by rw [hv0]; simp [go_sem]
    have a1_v0 : v0.cell? ⟨w.heap.size, 1, none⟩ = some (.int .i64 f) := by rw [hv0]; simp [go_sem]
    have a2_v0 : v0.cell? ⟨w.heap.size, 2, none⟩ = some (.int .i64 u) := by rw [hv0]; simp [go_sem]
    have b0_v0 : v0.cell? ⟨w.heap.size + 1, 0, none⟩ = some (.int .i64 b) := by rw [hv0]; simp [go_sem]
    have b1_v0 : v0.cell? ⟨w.heap.size + 1, 1, none⟩ = some (.int .i64 g) := by rw [hv0]; simp [go_sem]
    have b2_v0 : v0.cell? ⟨w.heap.size + 1, 2, none⟩ = some (.int .i64 v) := by rw [hv0]; simp [go_sem]
    have r0_v0 : v0.cell? ⟨w.heap.size + 1 + 1, 0, none⟩ = some (.int .i64 0) := by rw [hv0]; simp [go_sem]
    have zr0_v0 : v0.frozen? ⟨w.heap.size + 1 + 1, 0, none⟩ = false := by rw [hv0]; simp [go_sem]
    have r1_v0 : v0.cell? ⟨w.heap.size + 1 + 1, 1, none⟩ = some (.int .i64 0) := by rw [hv0]; simp [go_sem]
    have zr1_v0 : v0.frozen? ⟨w.heap.size + 1 + 1, 1, none⟩ = false := by rw [hv0]; simp [go_sem]
    have N0 := Lib.hid (show New w v0 by rw [hv0]; exact (by repeat (first | with_reducible exact New.refl _ | with_reducible assumption | refine New.drewN ?_ _ | refine New.drew ?_ | refine New.alloc ?_ _ | refine New.setCell ?_ (by first | omega | (simp; omega) | (simp; done)) _ | (refine New.trans ?_ (by assumption)))))
    have zv0 : w.heap.size + 1 + 1 < v0.heap.size := by rw [hv0]; simp
    clear hv0
    go_region_held3 (fun w' => w'.cell? ⟨w.heap.size, 0, none⟩ = some (.int .i64 a) ∧ w'.cell? ⟨w.heap.size, 1, none⟩ = some (.int .i64 f) ∧ w'.cell? ⟨w.heap.size, 2, none⟩ = some (.int .i64 u) ∧ w'.cell? ⟨w.heap.size + 1, 0, none⟩ = some (.int .i64 b) ∧ w'.cell? ⟨w.heap.size + 1, 1, none⟩ = some (.int .i64 g) ∧ w'.cell? ⟨w.heap.size + 1, 2, none⟩ = some (.int .i64 v))
      (first | with_reducible exact ⟨a0_v0, a1_v0, a2_v0, b0_v0, b1_v0, b2_v0⟩ | with_reducible exact ⟨a0_u1, a1_u1, a2_u1, b0_u1, b1_u1, b2_u1⟩ | with_reducible exact ⟨a0_u2, a1_u2, a2_u2, b0_u2, b1_u2, b2_u2⟩ | with_reducible exact ⟨a0_u3, a1_u3, a2_u3, b0_u3, b1_u3, b2_u3⟩ | exact ⟨a0_v0, a1_v0, a2_v0, b0_v0, b1_v0, b2_v0⟩ | fail)
      (first
        | (go_at_call_of 58 (Value.agg #[.int .i64 a, .int .i64 f, .int .i64 u]); refine (level_any _ a f u OA.out).mono ?_; rintro e u1 ⟨rfl, n_u1⟩; (try replace n_u1 := New.undrew n_u1); have a0_u1 : u1.cell? ⟨w.heap.size, 0, none⟩ = some (.int .i64 a) := n_u1.cell a0_v0; have a1_u1 : u1.cell? ⟨w.heap.size, 1, none⟩ = some (.int .i64 f) := n_u1.cell a1_v0; have a2_u1 : u1.cell? ⟨w.heap.size, 2, none⟩ = some (.int .i64 u) := n_u1.cell a2_v0; have b0_u1 : u1.cell? ⟨w.heap.size + 1, 0, none⟩ = some (.int .i64 b) := n_u1.cell b0_v0; have b1_u1 : u1.cell? ⟨w.heap.size + 1, 1, none⟩ = some (.int .i64 g) := n_u1.cell b1_v0; have b2_u1 : u1.cell? ⟨w.heap.size + 1, 2, none⟩ = some (.int .i64 v) := n_u1.cell b2_v0; have r0_u1 : u1.cell? ⟨w.heap.size + 1 + 1, 0, none⟩ = some (.int .i64 0) := n_u1.cell r0_v0; have zr0_u1 : u1.frozen? ⟨w.heap.size + 1 + 1, 0, none⟩ = false := n_u1.frz r0_v0 zr0_v0; have r1_u1 : u1.cell? ⟨w.heap.size + 1 + 1, 1, none⟩ = some (.int .i64 0) := n_u1.cell r1_v0; have zr1_u1 : u1.frozen? ⟨w.heap.size + 1 + 1, 1, none⟩ = false := n_u1.frz r1_v0 zr1_v0; rw [EL.out]; skip)
        | (go_at_call_of 58 (Value.agg #[.int .i64 b, .int .i64 g, .int .i64 v]); refine (level_any _ b g v OB.out).mono ?_; rintro e u2 ⟨rfl, n_u2⟩; (try replace n_u2 := New.undrew n_u2); have a0_u2 : u2.cell? ⟨w.heap.size, 0, none⟩ = some (.int .i64 a) := n_u2.cell a0_u1; have a1_u2 : u2.cell? ⟨w.heap.size, 1, none⟩ = some (.int .i64 f) := n_u2.cell a1_u1; have a2_u2 : u2.cell? ⟨w.heap.size, 2, none⟩ = some (.int .i64 u) := n_u2.cell a2_u1; have b0_u2 : u2.cell? ⟨w.heap.size + 1, 0, none⟩ = some (.int .i64 b) := n_u2.cell b0_u1; have b1_u2 : u2.cell? ⟨w.heap.size + 1, 1, none⟩ = some (.int .i64 g) := n_u2.cell b1_u1; have b2_u2 : u2.cell? ⟨w.heap.size + 1, 2, none⟩ = some (.int .i64 v) := n_u2.cell b2_u1; have r0_u2 : u2.cell? ⟨w.heap.size + 1 + 1, 0, none⟩ = some (.int .i64 0) := n_u2.cell r0_u1; have zr0_u2 : u2.frozen? ⟨w.heap.size + 1 + 1, 0, none⟩ = false := n_u2.frz r0_u1 zr0_u1; have r1_u2 : u2.cell? ⟨w.heap.size + 1 + 1, 1, none⟩ = some (.int .i64 0) := n_u2.cell r1_u1; have zr1_u2 : u2.frozen? ⟨w.heap.size + 1 + 1, 1, none⟩ = false := n_u2.frz r1_u1 zr1_u1; rw [EM.out]; skip)
        | (go_at_call 81; refine (isLess_any _ l1 l2 m1 m2 (by omega) (by omega) (by omega) (by omega)).mono ?_; rintro e u3 ⟨rfl, n_u3⟩; (try replace n_u3 := New.undrew n_u3); have a0_u3 : u3.cell? ⟨w.heap.size, 0, none⟩ = some (.int .i64 a) := n_u3.cell a0_u2; have a1_u3 : u3.cell? ⟨w.heap.size, 1, none⟩ = some (.int .i64 f) := n_u3.cell a1_u2; have a2_u3 : u3.cell? ⟨w.heap.size, 2, none⟩ = some (.int .i64 u) := n_u3.cell a2_u2; have b0_u3 : u3.cell? ⟨w.heap.size + 1, 0, none⟩ = some (.int .i64 b) := n_u3.cell b0_u2; have b1_u3 : u3.cell? ⟨w.heap.size + 1, 1, none⟩ = some (.int .i64 g) := n_u3.cell b1_u2; have b2_u3 : u3.cell? ⟨w.heap.size + 1, 2, none⟩ = some (.int .i64 v) := n_u3.cell b2_u2; have r0_u3 : u3.cell? ⟨w.heap.size + 1 + 1, 0, none⟩ = some (.int .i64 0) := n_u3.cell r0_u2; have zr0_u3 : u3.frozen? ⟨w.heap.size + 1 + 1, 0, none⟩ = false := n_u3.frz r0_u2 zr0_u2; have r1_u3 : u3.cell? ⟨w.heap.size + 1 + 1, 1, none⟩ = some (.int .i64 0) := n_u3.cell r1_u2; have zr1_u3 : u3.frozen? ⟨w.heap.size + 1 + 1, 1, none⟩ = false := n_u3.frz r1_u2 zr1_u2;  skip))
    have K_u1 := Lib.hid (show New v0 u1 from n_u1); clear n_u1
    have K_u2 := Lib.hid (show New u1 u2 from n_u2); clear n_u2
    have K_u3 := Lib.hid (show New u2 u3 from n_u3); clear n_u3
    have NN := Lib.hid ((((N0.out.trans K_u1.out).trans K_u2.out).trans K_u3.out))
    have zr : w.heap.size + 1 + 1 < u3.heap.size := World.block_lt_of_cell? _ _ r0_u3
    clear a0_v0 a0_u1 a0_u2 a1_v0 a1_u1 a1_u2 a2_v0 a2_u1 a2_u2 b0_v0 b0_u1 b0_u2 b1_v0 b1_u1 b1_u2 b2_v0 b2_u1 b2_u2 r0_v0 r0_u1 r0_u2 r1_v0 r1_u1 r1_u2
    generalize hbb : (decide (l1 * m2 < m1 * l2)) = bb
    obtain rfl : bb = true := by rw [← hbb]; exact decide_eq_true hlt
    clear hbb
    go_wp2_with fail
    refine (pipeFlow_ge _ b g v a f u h OK.out.swap (by have := HG.out; omega)).mono ?_
    rintro e w3 ⟨rfl, n3⟩
    rw [ET.out]
    obtain ⟨s0, s1, y0, y1⟩ := pair_kept n3 ⟨r0_u3, r1_u3, zr0_u3, zr1_u3⟩
    have N3 := Lib.hid (NN.out.trans n3)
    have z3 := n3.size; clear n3
    go_wp2_with fail
    refine (times_any _ p q (-1) (by omega) (by omega) (by omega) (by omega)).mono ?_
    rintro e w4 ⟨rfl, n4⟩
    rw [ER.out]
    obtain ⟨s0, s1, y0, y1⟩ := pair_kept n4 ⟨s0, s1, y0, y1⟩
    have N4 := Lib.hid (N3.out.trans n4); clear n4
    go_wp2
    refine bodyPost_ret (v := ratV (-p, q)) (by simp [results, Try.results57, go_sem, s0, s1]) rfl ⟨by rw [FL.out], ?_⟩
    have := N4.out
    (repeat (first | with_reducible exact New.refl _ | with_reducible assumption | refine New.drewN ?_ _ | refine New.drew ?_ | refine New.alloc ?_ _ | refine New.setCell ?_ (by first | omega | (simp; omega) | (simp; done)) _ | (refine New.trans ?_ (by assumption))))
  · refine (pipeFlow_ge w a f u b g v h ok hlt).mono fun e w' k => ⟨?_, k.2⟩
    rw [k.1]
    unfold flR
    rw [if_neg hlt]

def ftM (A B : Tk) (h : Int) : Int × Int := if pipeB A B h then flR A B h else (0, 0)
theorem ftM_yes {A B : Tk} {h : Int} (k : pipeB A B h = true) : ftM A B h = flR A B h := by unfold ftM; rw [if_pos k]
theorem ftM_no {A B : Tk} {h : Int} (k : pipeB A B h = false) : ftM A B h = (0, 0) := by unfold ftM; rw [k]; rfl

set_option maxRecDepth 100000 in
theorem sFlowThrough_any (w : World) (a f u b g v h : Int) :
    Calls Try.prog 33 #[tkV a f u, tkV b g v, .int .i64 h] w fun e w' => e = .returned (.tuple #[ratV (ftM (a, f, u) (b, g, v) h), .bool (pipeB (a, f, u) (b, g, v) h)]) ∧ New w w' := by
  by_cases hk : pipeB (a, f, u) (b, g, v) h = true
  · have HM := Lib.hid (ftM_yes hk)
    have HB := Lib.hid hk
    have OK := Lib.hid (pipeB_iff.1 hk); clear hk
    go_enter Try.func33, Try.ntmps33
    go_wp2_with fail
    refine (lePipe_any _ _ _ _ _ _ _ _).mono ?_
    rintro e w1 ⟨rfl, n1⟩
    rw [HB.out]
    obtain ⟨r0, r1, y0, y1⟩ := pair_kept (p := ⟨w.heap.size + 1 + 1, 0, none⟩) (q := ⟨w.heap.size + 1 + 1, 1, none⟩) (x := .int .i64 0) (y := .int .i64 0) n1 (by simp [go_sem])
    have p0 : w1.cell? ⟨w.heap.size, 0, none⟩ = some (.int .i64 a) := n1.cell (by simp [go_sem])
    have p1 : w1.cell? ⟨w.heap.size, 1, none⟩ = some (.int .i64 f) := n1.cell (by simp [go_sem])
    have p2 : w1.cell? ⟨w.heap.size, 2, none⟩ = some (.int .i64 u) := n1.cell (by simp [go_sem])
    have q0 : w1.cell? ⟨w.heap.size + 1, 0, none⟩ = some (.int .i64 b) := n1.cell (by simp [go_sem])
    have q1 : w1.cell? ⟨w.heap.size + 1, 1, none⟩ = some (.int .i64 g) := n1.cell (by simp [go_sem])
    have q2 : w1.cell? ⟨w.heap.size + 1, 2, none⟩ = some (.int .i64 v) := n1.cell (by simp [go_sem])
    have N1 := Lib.hid (show New w w1 from New.trans (by repeat (first | with_reducible exact New.refl _ | with_reducible assumption | refine New.drewN ?_ _ | refine New.drew ?_ | refine New.alloc ?_ _ | refine New.setCell ?_ (by first | omega | (simp; omega) | (simp; done)) _ | (refine New.trans ?_ (by assumption)))) n1); clear n1
    go_wp2_with fail
    refine (leFlow_any _ _ _ _ _ _ _ _ OK.out).mono ?_
    rintro e w2 ⟨rfl, n2⟩
    obtain ⟨r0, r1, y0, y1⟩ := pair_kept n2 ⟨r0, r1, y0, y1⟩
    have N2 := Lib.hid (N1.out.trans n2); clear n2 p0 p1 p2 q0 q1 q2
    obtain ⟨p, hp⟩ : ∃ p, p = flR (a, f, u) (b, g, v) h := ⟨_, rfl⟩
    rw [← hp]
    rw [← hp] at HM
    clear hp
    go_wp2
    refine bodyPost_ret (v := .tuple #[ratV p, .bool true]) (by simp [results, Try.results33, go_sem, r0, r1]) rfl ⟨by rw [HM.out, HB.out], ?_⟩
    have := N2.out
    (repeat (first | with_reducible exact New.refl _ | with_reducible assumption | refine New.drewN ?_ _ | refine New.drew ?_ | refine New.alloc ?_ _ | refine New.setCell ?_ (by first | omega | (simp; omega) | (simp; done)) _ | (refine New.trans ?_ (by assumption))))
  · have hf := bool_no hk
    have HM := Lib.hid (ftM_no hf)
    have HB := Lib.hid hf; clear hk hf
    go_enter Try.func33, Try.ntmps33
    go_wp2_with fail
    refine (lePipe_any _ _ _ _ _ _ _ _).mono ?_
    rintro e w1 ⟨rfl, n1⟩
    rw [HB.out]
    obtain ⟨r0, r1, y0, y1⟩ := pair_kept (p := ⟨w.heap.size + 1 + 1, 0, none⟩) (q := ⟨w.heap.size + 1 + 1, 1, none⟩) (x := .int .i64 0) (y := .int .i64 0) n1 (by simp [go_sem])
    have N1 := Lib.hid (show New w w1 from New.trans (by repeat (first | with_reducible exact New.refl _ | with_reducible assumption | refine New.drewN ?_ _ | refine New.drew ?_ | refine New.alloc ?_ _ | refine New.setCell ?_ (by first | omega | (simp; omega) | (simp; done)) _ | (refine New.trans ?_ (by assumption)))) n1); clear n1
    go_wp2
    refine bodyPost_ret (v := .tuple #[ratV (0, 0), .bool false]) (by simp [results, Try.results33, go_sem, r0, r1]) rfl ⟨by rw [HM.out, HB.out], ?_⟩
    have := N1.out
    (repeat (first | with_reducible exact New.refl _ | with_reducible assumption | refine New.drewN ?_ _ | refine New.drew ?_ | refine New.alloc ?_ _ | refine New.setCell ?_ (by first | omega | (simp; omega) | (simp; done)) _ | (refine New.trans ?_ (by assumption))))

set_option maxRecDepth 100000 in
theorem iFlowThrough_any (w : World) (a f u b g v h : Int) :
    Calls Try.prog 34 #[tkV a f u, tkV b g v, .int .i64 h] w fun e w' => e = .returned (.tuple #[ratV (ftM (a, f, u) (b, g, v) h), .bool (pipeB (a, f, u) (b, g, v) h)]) ∧ New w w' := by
  by_cases hk : pipeB (a, f, u) (b, g, v) h = true
  · have HM := Lib.hid (ftM_yes hk)
    have HB := Lib.hid hk
    have OK := Lib.hid (pipeB_iff.1 hk); clear hk
    go_enter Try.func34, Try.ntmps34
    go_wp2_with fail
    refine (isPipe_any _ _ _ _ _ _ _ _).mono ?_
    rintro e w1 ⟨rfl, n1⟩
    rw [HB.out]
    obtain ⟨r0, r1, y0, y1⟩ := pair_kept (p := ⟨w.heap.size + 1 + 1, 0, none⟩) (q := ⟨w.heap.size + 1 + 1, 1, none⟩) (x := .int .i64 0) (y := .int .i64 0) n1 (by simp [go_sem])
    have p0 : w1.cell? ⟨w.heap.size, 0, none⟩ = some (.int .i64 a) := n1.cell (by simp [go_sem])
    have p1 : w1.cell? ⟨w.heap.size, 1, none⟩ = some (.int .i64 f) := n1.cell (by simp [go_sem])
    have p2 : w1.cell? ⟨w.heap.size, 2, none⟩ = some (.int .i64 u) := n1.cell (by simp [go_sem])
    have q0 : w1.cell? ⟨w.heap.size + 1, 0, none⟩ = some (.int .i64 b) := n1.cell (by simp [go_sem])
    have q1 : w1.cell? ⟨w.heap.size + 1, 1, none⟩ = some (.int .i64 g) := n1.cell (by simp [go_sem])
    have q2 : w1.cell? ⟨w.heap.size + 1, 2, none⟩ = some (.int .i64 v) := n1.cell (by simp [go_sem])
    have N1 := Lib.hid (show New w w1 from New.trans (by repeat (first | with_reducible exact New.refl _ | with_reducible assumption | refine New.drewN ?_ _ | refine New.drew ?_ | refine New.alloc ?_ _ | refine New.setCell ?_ (by first | omega | (simp; omega) | (simp; done)) _ | (refine New.trans ?_ (by assumption)))) n1); clear n1
    go_wp2_with fail
    refine (pipeFlow_any _ _ _ _ _ _ _ _ OK.out).mono ?_
    rintro e w2 ⟨rfl, n2⟩
    obtain ⟨r0, r1, y0, y1⟩ := pair_kept n2 ⟨r0, r1, y0, y1⟩
    have N2 := Lib.hid (N1.out.trans n2); clear n2 p0 p1 p2 q0 q1 q2
    obtain ⟨p, hp⟩ : ∃ p, p = flR (a, f, u) (b, g, v) h := ⟨_, rfl⟩
    rw [← hp]
    rw [← hp] at HM
    clear hp
    go_wp2
    refine bodyPost_ret (v := .tuple #[ratV p, .bool true]) (by simp [results, Try.results34, go_sem, r0, r1]) rfl ⟨by rw [HM.out, HB.out], ?_⟩
    have := N2.out
    (repeat (first | with_reducible exact New.refl _ | with_reducible assumption | refine New.drewN ?_ _ | refine New.drew ?_ | refine New.alloc ?_ _ | refine New.setCell ?_ (by first | omega | (simp; omega) | (simp; done)) _ | (refine New.trans ?_ (by assumption))))
  · have hf := bool_no hk
    have HM := Lib.hid (ftM_no hf)
    have HB := Lib.hid hf; clear hk hf
    go_enter Try.func34, Try.ntmps34
    go_wp2_with fail
    refine (isPipe_any _ _ _ _ _ _ _ _).mono ?_
    rintro e w1 ⟨rfl, n1⟩
    rw [HB.out]
    obtain ⟨r0, r1, y0, y1⟩ := pair_kept (p := ⟨w.heap.size + 1 + 1, 0, none⟩) (q := ⟨w.heap.size + 1 + 1, 1, none⟩) (x := .int .i64 0) (y := .int .i64 0) n1 (by simp [go_sem])
    have N1 := Lib.hid (show New w w1 from New.trans (by repeat (first | with_reducible exact New.refl _ | with_reducible assumption | refine New.drewN ?_ _ | refine New.drew ?_ | refine New.alloc ?_ _ | refine New.setCell ?_ (by first | omega | (simp; omega) | (simp; done)) _ | (refine New.trans ?_ (by assumption)))) n1); clear n1
    go_wp2
    refine bodyPost_ret (v := .tuple #[ratV (0, 0), .bool false]) (by simp [results, Try.results34, go_sem, r0, r1]) rfl ⟨by rw [HM.out, HB.out], ?_⟩
    have := N1.out
    (repeat (first | with_reducible exact New.refl _ | with_reducible assumption | refine New.drewN ?_ _ | refine New.drew ?_ | refine New.alloc ?_ _ | refine New.setCell ?_ (by first | omega | (simp; omega) | (simp; done)) _ | (refine New.trans ?_ (by assumption))))
end Go.Proofs.Ytkhniokfpmhonaa
