/- The law of PipeLevels: its walk. -/
import Derived.Test.YtkhniokfpmhonaaPip5
import Derived.Test.YtkhniokfpmhonaaCutB
import Derived.Test.YtkhniokfpmhonaaOpenTR
import Derived.Deep.RegionHeld3
import Derived.Deep.DeepCutAuto
namespace Go.Proofs.Ytkhniokfpmhonaa
open Go.RowKit

set_option maxRecDepth 100000 in
set_option maxHeartbeats 20000000 in
theorem law_PipeLevels (w : World) (x0_0 : Int) (x0_1 : Int) (x0_2 : Int) (x1_0 : Int) (x1_1 : Int) (x1_2 : Int) (x2 : Int) (hR0 : (plM (x0_0, x0_1, x0_2) (x1_0, x1_1, x1_2) x2).length ≤ 1048576) :
    Calls Try.prog 7 #[.agg #[.int .i64 x0_0, .int .i64 x0_1, .int .i64 x0_2], .agg #[.int .i64 x1_0, .int .i64 x1_1, .int .i64 x1_2], .int .i64 x2] w fun e w' => e = .returned (.bool true) ∧ New w w' := by
  have LR0 := Lib.hid hR0; clear hR0
  go_enter Try.func7, Try.ntmps7
  go_upto_region 1 with fail
  obtain ⟨v0, hv0⟩ : ∃ v, v = ((w.alloc (.cells #[.int .i64 x0_0, .int .i64 x0_1, .int .i64 x0_2] 47)).alloc (.cells #[.int .i64 x1_0, .int .i64 x1_1, .int .i64 x1_2] 47)) := ⟨_, rfl⟩
  rw [← hv0]
  have b0_0_v0 : v0.cell? ⟨w.heap.size, 0, none⟩ = some (.int .i64 x0_0) := by rw [hv0]; simp [go_sem]
  have b0_1_v0 : v0.cell? ⟨w.heap.size, 1, none⟩ = some (.int .i64 x0_1) := by rw [hv0]; simp [go_sem]
  have b0_2_v0 : v0.cell? ⟨w.heap.size, 2, none⟩ = some (.int .i64 x0_2) := by rw [hv0]; simp [go_sem]
  have b1_0_v0 : v0.cell? ⟨w.heap.size + 1, 0, none⟩ = some (.int .i64 x1_0) := by rw [hv0]; simp [go_sem]
  have b1_1_v0 : v0.cell? ⟨w.heap.size + 1, 1, none⟩ = some (.int .i64 x1_1) := by rw [hv0]; simp [go_sem]
  have b1_2_v0 : v0.cell? ⟨w.heap.size + 1, 2, none⟩ = some (.int .i64 x1_2) := by rw [hv0]; simp [go_sem]
  have K0 := Lib.hid (show New w v0 by rw [hv0]; exact (by repeat (first | with_reducible exact New.refl _ | with_reducible assumption | refine New.drewN ?_ _ | refine New.drew ?_ | refine New.alloc ?_ _ | refine New.setCell ?_ (by first | omega | (simp; omega) | (simp; done)) _ | (refine New.trans ?_ (by assumption)))))
  have zv0 : w.heap.size + 1 < v0.heap.size := by rw [hv0]; simp
  clear hv0
  go_region_held3 (fun w' => w'.cell? ⟨w.heap.size, 0, none⟩ = some (.int .i64 x0_0) ∧ w'.cell? ⟨w.heap.size, 1, none⟩ = some (.int .i64 x0_1) ∧ w'.cell? ⟨w.heap.size, 2, none⟩ = some (.int .i64 x0_2) ∧ w'.cell? ⟨w.heap.size + 1, 0, none⟩ = some (.int .i64 x1_0) ∧ w'.cell? ⟨w.heap.size + 1, 1, none⟩ = some (.int .i64 x1_1) ∧ w'.cell? ⟨w.heap.size + 1, 2, none⟩ = some (.int .i64 x1_2))
    (first | exact ⟨b0_0_v0, b0_1_v0, b0_2_v0, b1_0_v0, b1_1_v0, b1_2_v0⟩ | exact ⟨b0_0_u1, b0_1_u1, b0_2_u1, b1_0_u1, b1_1_u1, b1_2_u1⟩ | exact ⟨b0_0_u2, b0_1_u2, b0_2_u2, b1_0_u2, b1_1_u2, b1_2_u2⟩ | exact ⟨b0_0_u3, b0_1_u3, b0_2_u3, b1_0_u3, b1_1_u3, b1_2_u3⟩ | fail)
    (first
      | (go_at_call 31; refine (toTank_one _ _ _ _).mono ?_; rintro e u1 ⟨rfl, n_u1⟩; (try replace n_u1 := New.undrew n_u1); have b0_0_u1 : u1.cell? ⟨w.heap.size, 0, none⟩ = some (.int .i64 x0_0) := n_u1.cell b0_0_v0; have b0_1_u1 : u1.cell? ⟨w.heap.size, 1, none⟩ = some (.int .i64 x0_1) := n_u1.cell b0_1_v0; have b0_2_u1 : u1.cell? ⟨w.heap.size, 2, none⟩ = some (.int .i64 x0_2) := n_u1.cell b0_2_v0; have b1_0_u1 : u1.cell? ⟨w.heap.size + 1, 0, none⟩ = some (.int .i64 x1_0) := n_u1.cell b1_0_v0; have b1_1_u1 : u1.cell? ⟨w.heap.size + 1, 1, none⟩ = some (.int .i64 x1_1) := n_u1.cell b1_1_v0; have b1_2_u1 : u1.cell? ⟨w.heap.size + 1, 2, none⟩ = some (.int .i64 x1_2) := n_u1.cell b1_2_v0; skip)
      | (go_at_call 31; refine (toTank_one _ _ _ _).mono ?_; rintro e u2 ⟨rfl, n_u2⟩; (try replace n_u2 := New.undrew n_u2); have b0_0_u2 : u2.cell? ⟨w.heap.size, 0, none⟩ = some (.int .i64 x0_0) := n_u2.cell b0_0_u1; have b0_1_u2 : u2.cell? ⟨w.heap.size, 1, none⟩ = some (.int .i64 x0_1) := n_u2.cell b0_1_u1; have b0_2_u2 : u2.cell? ⟨w.heap.size, 2, none⟩ = some (.int .i64 x0_2) := n_u2.cell b0_2_u1; have b1_0_u2 : u2.cell? ⟨w.heap.size + 1, 0, none⟩ = some (.int .i64 x1_0) := n_u2.cell b1_0_u1; have b1_1_u2 : u2.cell? ⟨w.heap.size + 1, 1, none⟩ = some (.int .i64 x1_1) := n_u2.cell b1_1_u1; have b1_2_u2 : u2.cell? ⟨w.heap.size + 1, 2, none⟩ = some (.int .i64 x1_2) := n_u2.cell b1_2_u1; skip)
      | (go_at_call 30; refine (sPipeLevels_any _ _ _ _ _ _ _ _ ).mono ?_; rintro e u3 ⟨p0a, p0n, p0c, rfl, op0, n_u3⟩; (try replace n_u3 := New.undrew n_u3); have b0_0_u3 : u3.cell? ⟨w.heap.size, 0, none⟩ = some (.int .i64 x0_0) := n_u3.cell b0_0_u2; have b0_1_u3 : u3.cell? ⟨w.heap.size, 1, none⟩ = some (.int .i64 x0_1) := n_u3.cell b0_1_u2; have b0_2_u3 : u3.cell? ⟨w.heap.size, 2, none⟩ = some (.int .i64 x0_2) := n_u3.cell b0_2_u2; have b1_0_u3 : u3.cell? ⟨w.heap.size + 1, 0, none⟩ = some (.int .i64 x1_0) := n_u3.cell b1_0_u2; have b1_1_u3 : u3.cell? ⟨w.heap.size + 1, 1, none⟩ = some (.int .i64 x1_1) := n_u3.cell b1_1_u2; have b1_2_u3 : u3.cell? ⟨w.heap.size + 1, 2, none⟩ = some (.int .i64 x1_2) := n_u3.cell b1_2_u2; skip))
  have Ku1 := Lib.hid (show New v0 u1 from n_u1); clear n_u1
  have Ku2 := Lib.hid (show New u1 u2 from n_u2); clear n_u2
  have Ku3 := Lib.hid (show New u2 u3 from n_u3); clear n_u3
  clear b0_0_v0 b0_1_v0 b0_2_v0 b1_0_v0 b1_1_v0 b1_2_v0
  clear b0_0_u1 b0_1_u1 b0_2_u1 b1_0_u1 b1_1_u1 b1_2_u1
  clear b0_0_u2 b0_1_u2 b0_2_u2 b1_0_u2 b1_1_u2 b1_2_u2
  have Op0 := Lib.hid op0; clear op0
  go_upto_region 2 with fail
  go_region_held3 (fun w' => w'.cell? ⟨w.heap.size, 0, none⟩ = some (.int .i64 x0_0) ∧ w'.cell? ⟨w.heap.size, 1, none⟩ = some (.int .i64 x0_1) ∧ w'.cell? ⟨w.heap.size, 2, none⟩ = some (.int .i64 x0_2) ∧ w'.cell? ⟨w.heap.size + 1, 0, none⟩ = some (.int .i64 x1_0) ∧ w'.cell? ⟨w.heap.size + 1, 1, none⟩ = some (.int .i64 x1_1) ∧ w'.cell? ⟨w.heap.size + 1, 2, none⟩ = some (.int .i64 x1_2))
    (first | exact ⟨b0_0_u3, b0_1_u3, b0_2_u3, b1_0_u3, b1_1_u3, b1_2_u3⟩ | exact ⟨b0_0_u4, b0_1_u4, b0_2_u4, b1_0_u4, b1_1_u4, b1_2_u4⟩ | exact ⟨b0_0_u5, b0_1_u5, b0_2_u5, b1_0_u5, b1_1_u5, b1_2_u5⟩ | exact ⟨b0_0_u6, b0_1_u6, b0_2_u6, b1_0_u6, b1_1_u6, b1_2_u6⟩ | fail)
    (first
      | (go_at_call 31; refine (toTank_one _ _ _ _).mono ?_; rintro e u4 ⟨rfl, n_u4⟩; (try replace n_u4 := New.undrew n_u4); have b0_0_u4 : u4.cell? ⟨w.heap.size, 0, none⟩ = some (.int .i64 x0_0) := n_u4.cell b0_0_u3; have b0_1_u4 : u4.cell? ⟨w.heap.size, 1, none⟩ = some (.int .i64 x0_1) := n_u4.cell b0_1_u3; have b0_2_u4 : u4.cell? ⟨w.heap.size, 2, none⟩ = some (.int .i64 x0_2) := n_u4.cell b0_2_u3; have b1_0_u4 : u4.cell? ⟨w.heap.size + 1, 0, none⟩ = some (.int .i64 x1_0) := n_u4.cell b1_0_u3; have b1_1_u4 : u4.cell? ⟨w.heap.size + 1, 1, none⟩ = some (.int .i64 x1_1) := n_u4.cell b1_1_u3; have b1_2_u4 : u4.cell? ⟨w.heap.size + 1, 2, none⟩ = some (.int .i64 x1_2) := n_u4.cell b1_2_u3; skip)
      | (go_at_call 31; refine (toTank_one _ _ _ _).mono ?_; rintro e u5 ⟨rfl, n_u5⟩; (try replace n_u5 := New.undrew n_u5); have b0_0_u5 : u5.cell? ⟨w.heap.size, 0, none⟩ = some (.int .i64 x0_0) := n_u5.cell b0_0_u4; have b0_1_u5 : u5.cell? ⟨w.heap.size, 1, none⟩ = some (.int .i64 x0_1) := n_u5.cell b0_1_u4; have b0_2_u5 : u5.cell? ⟨w.heap.size, 2, none⟩ = some (.int .i64 x0_2) := n_u5.cell b0_2_u4; have b1_0_u5 : u5.cell? ⟨w.heap.size + 1, 0, none⟩ = some (.int .i64 x1_0) := n_u5.cell b1_0_u4; have b1_1_u5 : u5.cell? ⟨w.heap.size + 1, 1, none⟩ = some (.int .i64 x1_1) := n_u5.cell b1_1_u4; have b1_2_u5 : u5.cell? ⟨w.heap.size + 1, 2, none⟩ = some (.int .i64 x1_2) := n_u5.cell b1_2_u4; skip)
      | (go_at_call 32; refine (iPipeLevels_any _ _ _ _ _ _ _ _ ).mono ?_; rintro e u6 ⟨g0a, g0n, g0c, rfl, og0, n_u6⟩; (try replace n_u6 := New.undrew n_u6); have b0_0_u6 : u6.cell? ⟨w.heap.size, 0, none⟩ = some (.int .i64 x0_0) := n_u6.cell b0_0_u5; have b0_1_u6 : u6.cell? ⟨w.heap.size, 1, none⟩ = some (.int .i64 x0_1) := n_u6.cell b0_1_u5; have b0_2_u6 : u6.cell? ⟨w.heap.size, 2, none⟩ = some (.int .i64 x0_2) := n_u6.cell b0_2_u5; have b1_0_u6 : u6.cell? ⟨w.heap.size + 1, 0, none⟩ = some (.int .i64 x1_0) := n_u6.cell b1_0_u5; have b1_1_u6 : u6.cell? ⟨w.heap.size + 1, 1, none⟩ = some (.int .i64 x1_1) := n_u6.cell b1_1_u5; have b1_2_u6 : u6.cell? ⟨w.heap.size + 1, 2, none⟩ = some (.int .i64 x1_2) := n_u6.cell b1_2_u5; skip))
  have Ku4 := Lib.hid (show New u3 u4 from n_u4); clear n_u4
  have Ku5 := Lib.hid (show New u4 u5 from n_u5); clear n_u5
  have Ku6 := Lib.hid (show New u5 u6 from n_u6); clear n_u6
  clear b0_0_u3 b0_1_u3 b0_2_u3 b1_0_u3 b1_1_u3 b1_2_u3
  clear b0_0_u4 b0_1_u4 b0_2_u4 b1_0_u4 b1_1_u4 b1_2_u4
  clear b0_0_u5 b0_1_u5 b0_2_u5 b1_0_u5 b1_1_u5 b1_2_u5
  have Og0 := Lib.hid og0; clear og0
  go_wp2_with fail
  refine (eqRatioS_same _ _ _ _ _ _ _ _ Og0.out.reads (Op0.out.new ((Ku4.out.trans Ku5.out).trans Ku6.out)).reads).mono ?_
  rintro e u7 ⟨rfl, n_u7⟩
  have b0_0_u7 : u7.cell? ⟨w.heap.size, 0, none⟩ = some (.int .i64 x0_0) := n_u7.cell b0_0_u6
  have b0_1_u7 : u7.cell? ⟨w.heap.size, 1, none⟩ = some (.int .i64 x0_1) := n_u7.cell b0_1_u6
  have b0_2_u7 : u7.cell? ⟨w.heap.size, 2, none⟩ = some (.int .i64 x0_2) := n_u7.cell b0_2_u6
  have b1_0_u7 : u7.cell? ⟨w.heap.size + 1, 0, none⟩ = some (.int .i64 x1_0) := n_u7.cell b1_0_u6
  have b1_1_u7 : u7.cell? ⟨w.heap.size + 1, 1, none⟩ = some (.int .i64 x1_1) := n_u7.cell b1_1_u6
  have b1_2_u7 : u7.cell? ⟨w.heap.size + 1, 2, none⟩ = some (.int .i64 x1_2) := n_u7.cell b1_2_u6
  have Ku7 := Lib.hid n_u7; clear n_u7
  clear b0_0_u6 b0_1_u6 b0_2_u6 b1_0_u6 b1_1_u6 b1_2_u6
  go_wp2_with fail
  have yu8 : g0n ≤ 1048576 := by have q1 := Og0.out.1; have q2 := LR0.out; omega
  refine (markRatioS_any _ u5.heap.size u6.heap.size _ _ _ _ _ (Og0.out.new Ku7.out) (by omega) (by omega)).mono ?_
  rintro e u8 ⟨rfl, mu8, ku8⟩
  have b0_0_u8 : u8.cell? ⟨w.heap.size, 0, none⟩ = some (.int .i64 x0_0) := ku8.cell b0_0_u7 (fun h => by have s0 := K0.out.size; have s1 := Ku1.out.size; have s2 := Ku2.out.size; have s3 := Ku3.out.size; have s4 := Ku4.out.size; have s5 := Ku5.out.size; have s6 := Ku6.out.size; have s7 := Ku7.out.size; skip; have bb := ((Og0.out.new Ku7.out)).bounds h.1 h.2; (try simp only at bb); omega)
  have b0_1_u8 : u8.cell? ⟨w.heap.size, 1, none⟩ = some (.int .i64 x0_1) := ku8.cell b0_1_u7 (fun h => by have s0 := K0.out.size; have s1 := Ku1.out.size; have s2 := Ku2.out.size; have s3 := Ku3.out.size; have s4 := Ku4.out.size; have s5 := Ku5.out.size; have s6 := Ku6.out.size; have s7 := Ku7.out.size; skip; have bb := ((Og0.out.new Ku7.out)).bounds h.1 h.2; (try simp only at bb); omega)
  have b0_2_u8 : u8.cell? ⟨w.heap.size, 2, none⟩ = some (.int .i64 x0_2) := ku8.cell b0_2_u7 (fun h => by have s0 := K0.out.size; have s1 := Ku1.out.size; have s2 := Ku2.out.size; have s3 := Ku3.out.size; have s4 := Ku4.out.size; have s5 := Ku5.out.size; have s6 := Ku6.out.size; have s7 := Ku7.out.size; skip; have bb := ((Og0.out.new Ku7.out)).bounds h.1 h.2; (try simp only at bb); omega)
  have b1_0_u8 : u8.cell? ⟨w.heap.size + 1, 0, none⟩ = some (.int .i64 x1_0) := ku8.cell b1_0_u7 (fun h => by have s0 := K0.out.size; have s1 := Ku1.out.size; have s2 := Ku2.out.size; have s3 := Ku3.out.size; have s4 := Ku4.out.size; have s5 := Ku5.out.size; have s6 := Ku6.out.size; have s7 := Ku7.out.size; skip; have bb := ((Og0.out.new Ku7.out)).bounds h.1 h.2; (try simp only at bb); omega)
  have b1_1_u8 : u8.cell? ⟨w.heap.size + 1, 1, none⟩ = some (.int .i64 x1_1) := ku8.cell b1_1_u7 (fun h => by have s0 := K0.out.size; have s1 := Ku1.out.size; have s2 := Ku2.out.size; have s3 := Ku3.out.size; have s4 := Ku4.out.size; have s5 := Ku5.out.size; have s6 := Ku6.out.size; have s7 := Ku7.out.size; skip; have bb := ((Og0.out.new Ku7.out)).bounds h.1 h.2; (try simp only at bb); omega)
  have b1_2_u8 : u8.cell? ⟨w.heap.size + 1, 2, none⟩ = some (.int .i64 x1_2) := ku8.cell b1_2_u7 (fun h => by have s0 := K0.out.size; have s1 := Ku1.out.size; have s2 := Ku2.out.size; have s3 := Ku3.out.size; have s4 := Ku4.out.size; have s5 := Ku5.out.size; have s6 := Ku6.out.size; have s7 := Ku7.out.size; skip; have bb := ((Og0.out.new Ku7.out)).bounds h.1 h.2; (try simp only at bb); omega)
  have Ku8 := Lib.hid ku8; clear ku8
  have Op0_u8 := Lib.hid ((Op0.out.new (((Ku4.out.trans Ku5.out).trans Ku6.out).trans Ku7.out)).chg Ku8.out (fun b h1 h2 h => by have s0 := K0.out.size; have s1 := Ku1.out.size; have s2 := Ku2.out.size; have s3 := Ku3.out.size; have s4 := Ku4.out.size; have s5 := Ku5.out.size; have s6 := Ku6.out.size; have s7 := Ku7.out.size; skip; have bb := ((Og0.out.new Ku7.out)).bounds h.1 h.2; omega))
  have Mu8 := Lib.hid mu8; clear mu8
  clear b0_0_u7 b0_1_u7 b0_2_u7 b1_0_u7 b1_1_u7 b1_2_u7
  have eu8 : ¬ 1 + 2 * (g0n : Int) < 0 := by omega
  go_wp2_with fail
  refine (heldRatioS_new _ _ _ _ _ Mu8.out.reads (by omega) (by omega)).mono ?_
  rintro e u9 ⟨rfl, n_u9⟩
  have b0_0_u9 : u9.cell? ⟨w.heap.size, 0, none⟩ = some (.int .i64 x0_0) := n_u9.cell b0_0_u8
  have b0_1_u9 : u9.cell? ⟨w.heap.size, 1, none⟩ = some (.int .i64 x0_1) := n_u9.cell b0_1_u8
  have b0_2_u9 : u9.cell? ⟨w.heap.size, 2, none⟩ = some (.int .i64 x0_2) := n_u9.cell b0_2_u8
  have b1_0_u9 : u9.cell? ⟨w.heap.size + 1, 0, none⟩ = some (.int .i64 x1_0) := n_u9.cell b1_0_u8
  have b1_1_u9 : u9.cell? ⟨w.heap.size + 1, 1, none⟩ = some (.int .i64 x1_1) := n_u9.cell b1_1_u8
  have b1_2_u9 : u9.cell? ⟨w.heap.size + 1, 2, none⟩ = some (.int .i64 x1_2) := n_u9.cell b1_2_u8
  have Ku9 := Lib.hid n_u9; clear n_u9
  clear b0_0_u8 b0_1_u8 b0_2_u8 b1_0_u8 b1_1_u8 b1_2_u8
  go_upto_region 13 with fail
  go_region_held3 (fun w' => w'.cell? ⟨w.heap.size, 0, none⟩ = some (.int .i64 x0_0) ∧ w'.cell? ⟨w.heap.size, 1, none⟩ = some (.int .i64 x0_1) ∧ w'.cell? ⟨w.heap.size, 2, none⟩ = some (.int .i64 x0_2) ∧ w'.cell? ⟨w.heap.size + 1, 0, none⟩ = some (.int .i64 x1_0) ∧ w'.cell? ⟨w.heap.size + 1, 1, none⟩ = some (.int .i64 x1_1) ∧ w'.cell? ⟨w.heap.size + 1, 2, none⟩ = some (.int .i64 x1_2))
    (first | exact ⟨b0_0_u9, b0_1_u9, b0_2_u9, b1_0_u9, b1_1_u9, b1_2_u9⟩ | exact ⟨b0_0_u10, b0_1_u10, b0_2_u10, b1_0_u10, b1_1_u10, b1_2_u10⟩ | exact ⟨b0_0_u11, b0_1_u11, b0_2_u11, b1_0_u11, b1_1_u11, b1_2_u11⟩ | exact ⟨b0_0_u12, b0_1_u12, b0_2_u12, b1_0_u12, b1_1_u12, b1_2_u12⟩ | fail)
    (first
      | (go_at_call 31; refine (toTank_one _ _ _ _).mono ?_; rintro e u10 ⟨rfl, n_u10⟩; (try replace n_u10 := New.undrew n_u10); have b0_0_u10 : u10.cell? ⟨w.heap.size, 0, none⟩ = some (.int .i64 x0_0) := n_u10.cell b0_0_u9; have b0_1_u10 : u10.cell? ⟨w.heap.size, 1, none⟩ = some (.int .i64 x0_1) := n_u10.cell b0_1_u9; have b0_2_u10 : u10.cell? ⟨w.heap.size, 2, none⟩ = some (.int .i64 x0_2) := n_u10.cell b0_2_u9; have b1_0_u10 : u10.cell? ⟨w.heap.size + 1, 0, none⟩ = some (.int .i64 x1_0) := n_u10.cell b1_0_u9; have b1_1_u10 : u10.cell? ⟨w.heap.size + 1, 1, none⟩ = some (.int .i64 x1_1) := n_u10.cell b1_1_u9; have b1_2_u10 : u10.cell? ⟨w.heap.size + 1, 2, none⟩ = some (.int .i64 x1_2) := n_u10.cell b1_2_u9; skip)
      | (go_at_call 31; refine (toTank_one _ _ _ _).mono ?_; rintro e u11 ⟨rfl, n_u11⟩; (try replace n_u11 := New.undrew n_u11); have b0_0_u11 : u11.cell? ⟨w.heap.size, 0, none⟩ = some (.int .i64 x0_0) := n_u11.cell b0_0_u10; have b0_1_u11 : u11.cell? ⟨w.heap.size, 1, none⟩ = some (.int .i64 x0_1) := n_u11.cell b0_1_u10; have b0_2_u11 : u11.cell? ⟨w.heap.size, 2, none⟩ = some (.int .i64 x0_2) := n_u11.cell b0_2_u10; have b1_0_u11 : u11.cell? ⟨w.heap.size + 1, 0, none⟩ = some (.int .i64 x1_0) := n_u11.cell b1_0_u10; have b1_1_u11 : u11.cell? ⟨w.heap.size + 1, 1, none⟩ = some (.int .i64 x1_1) := n_u11.cell b1_1_u10; have b1_2_u11 : u11.cell? ⟨w.heap.size + 1, 2, none⟩ = some (.int .i64 x1_2) := n_u11.cell b1_2_u10; skip)
      | (go_at_call 32; refine (iPipeLevels_any _ _ _ _ _ _ _ _ ).mono ?_; rintro e u12 ⟨f0a, f0n, f0c, rfl, of0, n_u12⟩; (try replace n_u12 := New.undrew n_u12); have b0_0_u12 : u12.cell? ⟨w.heap.size, 0, none⟩ = some (.int .i64 x0_0) := n_u12.cell b0_0_u11; have b0_1_u12 : u12.cell? ⟨w.heap.size, 1, none⟩ = some (.int .i64 x0_1) := n_u12.cell b0_1_u11; have b0_2_u12 : u12.cell? ⟨w.heap.size, 2, none⟩ = some (.int .i64 x0_2) := n_u12.cell b0_2_u11; have b1_0_u12 : u12.cell? ⟨w.heap.size + 1, 0, none⟩ = some (.int .i64 x1_0) := n_u12.cell b1_0_u11; have b1_1_u12 : u12.cell? ⟨w.heap.size + 1, 1, none⟩ = some (.int .i64 x1_1) := n_u12.cell b1_1_u11; have b1_2_u12 : u12.cell? ⟨w.heap.size + 1, 2, none⟩ = some (.int .i64 x1_2) := n_u12.cell b1_2_u11; skip))
  have Ku10 := Lib.hid (show New u9 u10 from n_u10); clear n_u10
  have Ku11 := Lib.hid (show New u10 u11 from n_u11); clear n_u11
  have Ku12 := Lib.hid (show New u11 u12 from n_u12); clear n_u12
  clear b0_0_u9 b0_1_u9 b0_2_u9 b1_0_u9 b1_1_u9 b1_2_u9
  clear b0_0_u10 b0_1_u10 b0_2_u10 b1_0_u10 b1_1_u10 b1_2_u10
  clear b0_0_u11 b0_1_u11 b0_2_u11 b1_0_u11 b1_1_u11 b1_2_u11
  have Of0 := Lib.hid of0; clear of0
  go_wp2_with fail
  refine (eqRatioS_same _ _ _ _ _ _ _ _ Of0.out.reads (Op0_u8.out.new (((Ku9.out.trans Ku10.out).trans Ku11.out).trans Ku12.out)).reads).mono ?_
  rintro e u13 ⟨rfl, n_u13⟩
  have b0_0_u13 : u13.cell? ⟨w.heap.size, 0, none⟩ = some (.int .i64 x0_0) := n_u13.cell b0_0_u12
  have b0_1_u13 : u13.cell? ⟨w.heap.size, 1, none⟩ = some (.int .i64 x0_1) := n_u13.cell b0_1_u12
  have b0_2_u13 : u13.cell? ⟨w.heap.size, 2, none⟩ = some (.int .i64 x0_2) := n_u13.cell b0_2_u12
  have b1_0_u13 : u13.cell? ⟨w.heap.size + 1, 0, none⟩ = some (.int .i64 x1_0) := n_u13.cell b1_0_u12
  have b1_1_u13 : u13.cell? ⟨w.heap.size + 1, 1, none⟩ = some (.int .i64 x1_1) := n_u13.cell b1_1_u12
  have b1_2_u13 : u13.cell? ⟨w.heap.size + 1, 2, none⟩ = some (.int .i64 x1_2) := n_u13.cell b1_2_u12
  have Ku13 := Lib.hid n_u13; clear n_u13
  clear b0_0_u12 b0_1_u12 b0_2_u12 b1_0_u12 b1_1_u12 b1_2_u12
  go_wp2_with fail
  refine (heldRatioS_new _ _ _ _ _ (Mu8.out.new ((((Ku9.out.trans Ku10.out).trans Ku11.out).trans Ku12.out).trans Ku13.out)).reads (by omega) (by omega)).mono ?_
  rintro e u14 ⟨rfl, n_u14⟩
  have b0_0_u14 : u14.cell? ⟨w.heap.size, 0, none⟩ = some (.int .i64 x0_0) := n_u14.cell b0_0_u13
  have b0_1_u14 : u14.cell? ⟨w.heap.size, 1, none⟩ = some (.int .i64 x0_1) := n_u14.cell b0_1_u13
  have b0_2_u14 : u14.cell? ⟨w.heap.size, 2, none⟩ = some (.int .i64 x0_2) := n_u14.cell b0_2_u13
  have b1_0_u14 : u14.cell? ⟨w.heap.size + 1, 0, none⟩ = some (.int .i64 x1_0) := n_u14.cell b1_0_u13
  have b1_1_u14 : u14.cell? ⟨w.heap.size + 1, 1, none⟩ = some (.int .i64 x1_1) := n_u14.cell b1_1_u13
  have b1_2_u14 : u14.cell? ⟨w.heap.size + 1, 2, none⟩ = some (.int .i64 x1_2) := n_u14.cell b1_2_u13
  have Ku14 := Lib.hid n_u14; clear n_u14
  clear b0_0_u13 b0_1_u13 b0_2_u13 b1_0_u13 b1_1_u13 b1_2_u13
  go_wp2
  go_ret
  exact ⟨rfl, (((((((Chg.new (((((((K0.out.trans Ku1.out).trans Ku2.out).trans Ku3.out).trans Ku4.out).trans Ku5.out).trans Ku6.out).trans Ku7.out) Ku8.out (fun i hi => by have s0 := K0.out.size; have s1 := Ku1.out.size; have s2 := Ku2.out.size; have s3 := Ku3.out.size; have s4 := Ku4.out.size; have s5 := Ku5.out.size; have s6 := Ku6.out.size; have s7 := Ku7.out.size; skip; have bb := ((Og0.out.new Ku7.out)).bounds hi.1 hi.2; omega)).trans Ku9.out).trans Ku10.out).trans Ku11.out).trans Ku12.out).trans Ku13.out).trans Ku14.out)⟩
end Go.Proofs.Ytkhniokfpmhonaa
