/- The law of TickSiphon: its walk. -/
import Derived.Test.YtoobdahmjkooaaaSipS
import Derived.Test.YtoobdahmjkooaaaSipI
import Derived.Deep.RegionHeld3
import Derived.Deep.DeepCutAuto
namespace Go.Proofs.Ytoobdahmjkooaaa
open Go.RowKit

set_option maxRecDepth 100000 in
set_option maxHeartbeats 20000000 in
theorem law_TickSiphon (w : World) (x0_0 : Int) (x0_1 : Int) (x0_2 : Int) (x0_3 : Int) (x1_0 : Int) (x1_1 : Bool) (x2 : Int) :
    Calls Try.prog 5 #[.agg #[.int .i64 x0_0, .int .i64 x0_1, .int .i64 x0_2, .int .i64 x0_3], .agg #[.int .i64 x1_0, .bool x1_1], .int .i64 x2] w fun e w' => e = .returned (.bool true) ∧ New w w' := by
  go_enter Try.func5, Try.ntmps5
  go_upto_region 1 with fail
  obtain ⟨v0, hv0⟩ : ∃ v, v = ((w.alloc (.cells #[.int .i64 x0_0, .int .i64 x0_1, .int .i64 x0_2, .int .i64 x0_3] 23)).alloc (.cells #[.int .i64 x1_0, .bool x1_1] 29)) := ⟨_, rfl⟩
  rw [← hv0]
  have a0_0_v0 : v0.cell? ⟨w.heap.size, 0, none⟩ = some (.int .i64 x0_0) := by rw [hv0]; simp [go_sem]
  have a0_1_v0 : v0.cell? ⟨w.heap.size, 1, none⟩ = some (.int .i64 x0_1) := by rw [hv0]; simp [go_sem]
  have a0_2_v0 : v0.cell? ⟨w.heap.size, 2, none⟩ = some (.int .i64 x0_2) := by rw [hv0]; simp [go_sem]
  have a0_3_v0 : v0.cell? ⟨w.heap.size, 3, none⟩ = some (.int .i64 x0_3) := by rw [hv0]; simp [go_sem]
  have a1_0_v0 : v0.cell? ⟨w.heap.size + 1, 0, none⟩ = some (.int .i64 x1_0) := by rw [hv0]; simp [go_sem]
  have a1_1_v0 : v0.cell? ⟨w.heap.size + 1, 1, none⟩ = some (.bool x1_1) := by rw [hv0]; simp [go_sem]
  have N_v0 := Lib.hid (show New w v0 by rw [hv0]; exact (by repeat (first | with_reducible exact New.refl _ | with_reducible assumption | refine New.drewN ?_ _ | refine New.drew ?_ | refine New.alloc ?_ _ | refine New.setCell ?_ (by first | omega | (simp; omega) | (simp; done)) _ | (refine New.trans ?_ (by assumption)))))
  have z_v0 : w.heap.size + 1 < v0.heap.size := by rw [hv0]; simp
  clear hv0
  go_cut [7,8,9,10] (fun p q0 q1 q2 W => CutBox v0 (.int .i64 (tiH x0_0 x0_1 x0_2 x0_3 x1_0 x2 x1_1)) (.bool (tiR x0_0 x0_1 x0_2 x0_3 x1_0 x2 x1_1)) p W ∧ q0 = .int .i64 (tiO x0_0 x0_1 x0_2 x0_3 x1_0 x2 x1_1) ∧ q1 = .int .i64 (tiS x0_0 x0_1 x0_2 x0_3 x1_0 x2) ∧ q2 = .bool (askB x0_0 x0_1 x0_2 x0_3 x1_0 x2))
  case first =>
    go_region_held3 (fun w' => w'.cell? ⟨w.heap.size, 0, none⟩ = some (.int .i64 x0_0) ∧ w'.cell? ⟨w.heap.size, 1, none⟩ = some (.int .i64 x0_1) ∧ w'.cell? ⟨w.heap.size, 2, none⟩ = some (.int .i64 x0_2) ∧ w'.cell? ⟨w.heap.size, 3, none⟩ = some (.int .i64 x0_3) ∧ w'.cell? ⟨w.heap.size + 1, 0, none⟩ = some (.int .i64 x1_0) ∧ w'.cell? ⟨w.heap.size + 1, 1, none⟩ = some (.bool x1_1))
      (first | exact ⟨a0_0_v0, a0_1_v0, a0_2_v0, a0_3_v0, a1_0_v0, a1_1_v0⟩ | exact ⟨World.cell_kept a0_0_v0, World.cell_kept a0_1_v0, World.cell_kept a0_2_v0, World.cell_kept a0_3_v0, World.cell_kept a1_0_v0, World.cell_kept a1_1_v0⟩ | exact ⟨a0_0_s1w0, a0_1_s1w0, a0_2_s1w0, a0_3_s1w0, a1_0_s1w0, a1_1_s1w0⟩ | exact ⟨World.cell_kept a0_0_s1w0, World.cell_kept a0_1_s1w0, World.cell_kept a0_2_s1w0, World.cell_kept a0_3_s1w0, World.cell_kept a1_0_s1w0, World.cell_kept a1_1_s1w0⟩ | exact ⟨World.cell_set (World.cell_set a0_0_s1w0 (by simp; try omega)) (by simp; try omega), World.cell_set (World.cell_set a0_1_s1w0 (by simp; try omega)) (by simp; try omega), World.cell_set (World.cell_set a0_2_s1w0 (by simp; try omega)) (by simp; try omega), World.cell_set (World.cell_set a0_3_s1w0 (by simp; try omega)) (by simp; try omega), World.cell_set (World.cell_set a1_0_s1w0 (by simp; try omega)) (by simp; try omega), World.cell_set (World.cell_set a1_1_s1w0 (by simp; try omega)) (by simp; try omega)⟩ | exact ⟨a0_0_s1w1, a0_1_s1w1, a0_2_s1w1, a0_3_s1w1, a1_0_s1w1, a1_1_s1w1⟩ | exact ⟨World.cell_kept a0_0_s1w1, World.cell_kept a0_1_s1w1, World.cell_kept a0_2_s1w1, World.cell_kept a0_3_s1w1, World.cell_kept a1_0_s1w1, World.cell_kept a1_1_s1w1⟩ | exact ⟨World.cell_set (World.cell_set a0_0_s1w1 (by simp; try omega)) (by simp; try omega), World.cell_set (World.cell_set a0_1_s1w1 (by simp; try omega)) (by simp; try omega), World.cell_set (World.cell_set a0_2_s1w1 (by simp; try omega)) (by simp; try omega), World.cell_set (World.cell_set a0_3_s1w1 (by simp; try omega)) (by simp; try omega), World.cell_set (World.cell_set a1_0_s1w1 (by simp; try omega)) (by simp; try omega), World.cell_set (World.cell_set a1_1_s1w1 (by simp; try omega)) (by simp; try omega)⟩ | exact ⟨a0_0_s1w2, a0_1_s1w2, a0_2_s1w2, a0_3_s1w2, a1_0_s1w2, a1_1_s1w2⟩ | exact ⟨World.cell_kept a0_0_s1w2, World.cell_kept a0_1_s1w2, World.cell_kept a0_2_s1w2, World.cell_kept a0_3_s1w2, World.cell_kept a1_0_s1w2, World.cell_kept a1_1_s1w2⟩ | exact ⟨World.cell_set (World.cell_set a0_0_s1w2 (by simp; try omega)) (by simp; try omega), World.cell_set (World.cell_set a0_1_s1w2 (by simp; try omega)) (by simp; try omega), World.cell_set (World.cell_set a0_2_s1w2 (by simp; try omega)) (by simp; try omega), World.cell_set (World.cell_set a0_3_s1w2 (by simp; try omega)) (by simp; try omega), World.cell_set (World.cell_set a1_0_s1w2 (by simp; try omega)) (by simp; try omega), World.cell_set (World.cell_set a1_1_s1w2 (by simp; try omega)) (by simp; try omega)⟩ | fail)
      (first
        | (go_at_call 18; refine (toSiphon_any _ _ _ _ _).mono ?_; rintro e s1w0 ⟨rfl, n_s1w0⟩; (try replace n_s1w0 := New.undrew n_s1w0); have a0_0_s1w0 : s1w0.cell? ⟨w.heap.size, 0, none⟩ = some (.int .i64 x0_0) := n_s1w0.cell (by first | exact a0_0_v0 | exact World.cell_kept a0_0_v0); have a0_1_s1w0 : s1w0.cell? ⟨w.heap.size, 1, none⟩ = some (.int .i64 x0_1) := n_s1w0.cell (by first | exact a0_1_v0 | exact World.cell_kept a0_1_v0); have a0_2_s1w0 : s1w0.cell? ⟨w.heap.size, 2, none⟩ = some (.int .i64 x0_2) := n_s1w0.cell (by first | exact a0_2_v0 | exact World.cell_kept a0_2_v0); have a0_3_s1w0 : s1w0.cell? ⟨w.heap.size, 3, none⟩ = some (.int .i64 x0_3) := n_s1w0.cell (by first | exact a0_3_v0 | exact World.cell_kept a0_3_v0); have a1_0_s1w0 : s1w0.cell? ⟨w.heap.size + 1, 0, none⟩ = some (.int .i64 x1_0) := n_s1w0.cell (by first | exact a1_0_v0 | exact World.cell_kept a1_0_v0); have a1_1_s1w0 : s1w0.cell? ⟨w.heap.size + 1, 1, none⟩ = some (.bool x1_1) := n_s1w0.cell (by first | exact a1_1_v0 | exact World.cell_kept a1_1_v0); have e_s1w0 := n_s1w0.size; (try simp only [World.size_alloc] at e_s1w0); (try (have kk := New.box n_s1w0; obtain ⟨j0, j1, j2, j3, j4⟩ := kk)); (try (have kk := New.boxed n_s1w0 j0 j1 j2 j3; clear j0 j1 j2 j3; obtain ⟨j0, j1, j2, j3⟩ := kk)); skip)
        | (go_at_call 21; refine (toLevel_any _ _ _).mono ?_; rintro e s1w1 ⟨rfl, n_s1w1⟩; (try replace n_s1w1 := New.undrew n_s1w1); have a0_0_s1w1 : s1w1.cell? ⟨w.heap.size, 0, none⟩ = some (.int .i64 x0_0) := n_s1w1.cell (by first | exact a0_0_s1w0 | exact World.cell_kept a0_0_s1w0); have a0_1_s1w1 : s1w1.cell? ⟨w.heap.size, 1, none⟩ = some (.int .i64 x0_1) := n_s1w1.cell (by first | exact a0_1_s1w0 | exact World.cell_kept a0_1_s1w0); have a0_2_s1w1 : s1w1.cell? ⟨w.heap.size, 2, none⟩ = some (.int .i64 x0_2) := n_s1w1.cell (by first | exact a0_2_s1w0 | exact World.cell_kept a0_2_s1w0); have a0_3_s1w1 : s1w1.cell? ⟨w.heap.size, 3, none⟩ = some (.int .i64 x0_3) := n_s1w1.cell (by first | exact a0_3_s1w0 | exact World.cell_kept a0_3_s1w0); have a1_0_s1w1 : s1w1.cell? ⟨w.heap.size + 1, 0, none⟩ = some (.int .i64 x1_0) := n_s1w1.cell (by first | exact a1_0_s1w0 | exact World.cell_kept a1_0_s1w0); have a1_1_s1w1 : s1w1.cell? ⟨w.heap.size + 1, 1, none⟩ = some (.bool x1_1) := n_s1w1.cell (by first | exact a1_1_s1w0 | exact World.cell_kept a1_1_s1w0); have e_s1w1 := n_s1w1.size; (try simp only [World.size_alloc] at e_s1w1); (try (have kk := New.box n_s1w1; obtain ⟨j0, j1, j2, j3, j4⟩ := kk)); (try (have kk := New.boxed n_s1w1 j0 j1 j2 j3; clear j0 j1 j2 j3; obtain ⟨j0, j1, j2, j3⟩ := kk)); skip)
        | (go_at_call 23; refine (sTickSiphon_any _ _ _ _ _ _ _ _).mono ?_; rintro e s1w2 ⟨rfl, n_s1w2⟩; (try replace n_s1w2 := New.undrew n_s1w2); have a0_0_s1w2 : s1w2.cell? ⟨w.heap.size, 0, none⟩ = some (.int .i64 x0_0) := n_s1w2.cell (by first | exact a0_0_s1w1 | exact World.cell_kept a0_0_s1w1); have a0_1_s1w2 : s1w2.cell? ⟨w.heap.size, 1, none⟩ = some (.int .i64 x0_1) := n_s1w2.cell (by first | exact a0_1_s1w1 | exact World.cell_kept a0_1_s1w1); have a0_2_s1w2 : s1w2.cell? ⟨w.heap.size, 2, none⟩ = some (.int .i64 x0_2) := n_s1w2.cell (by first | exact a0_2_s1w1 | exact World.cell_kept a0_2_s1w1); have a0_3_s1w2 : s1w2.cell? ⟨w.heap.size, 3, none⟩ = some (.int .i64 x0_3) := n_s1w2.cell (by first | exact a0_3_s1w1 | exact World.cell_kept a0_3_s1w1); have a1_0_s1w2 : s1w2.cell? ⟨w.heap.size + 1, 0, none⟩ = some (.int .i64 x1_0) := n_s1w2.cell (by first | exact a1_0_s1w1 | exact World.cell_kept a1_0_s1w1); have a1_1_s1w2 : s1w2.cell? ⟨w.heap.size + 1, 1, none⟩ = some (.bool x1_1) := n_s1w2.cell (by first | exact a1_1_s1w1 | exact World.cell_kept a1_1_s1w1); have e_s1w2 := n_s1w2.size; (try simp only [World.size_alloc] at e_s1w2); (try (have kk := New.box n_s1w2; obtain ⟨j0, j1, j2, j3, j4⟩ := kk)); (try (have kk := New.boxed n_s1w2 j0 j1 j2 j3; clear j0 j1 j2 j3; obtain ⟨j0, j1, j2, j3⟩ := kk)); skip))
    all_goals (go_wp2_with fail; go_meet)
    all_goals
      have m0 : New v0 s1w0 := by first | exact n_s1w0 | exact ((New.refl _).alloc _).trans n_s1w0
      have y0 := n_s1w0.size
      (try simp only [World.size_alloc] at y0)
      have v0_ := m0.size
      have m1 : New s1w0 s1w1 := by first | exact n_s1w1 | exact ((New.refl _).alloc _).trans n_s1w1
      have y1 := n_s1w1.size
      (try simp only [World.size_alloc] at y1)
      have v1_ := m1.size
      have m2 : New s1w1 s1w2 := by first | exact n_s1w2 | exact ((New.refl _).alloc _).trans n_s1w2
      have y2 := n_s1w2.size
      (try simp only [World.size_alloc] at y2)
      have v2_ := m2.size
      refine ⟨?_, rfl, rfl, rfl⟩
      first
        | exact CutBox.behind ((m0.trans m1).trans m2)
        | exact CutBox.put ((m0.trans m1).trans m2) (by omega) (by omega) j0 j1
  case rest =>
    obtain ⟨⟨B0, rfl, hn, hlo, hhi, hc0, hc1⟩, rfl, rfl, rfl⟩ := hcut
    obtain ⟨u1, rfl⟩ : ∃ u : World, u = wc := ⟨_, rfl⟩
    have a0_0_u1 : u1.cell? ⟨w.heap.size, 0, none⟩ = some (.int .i64 x0_0) := hn.cell a0_0_v0
    have a0_1_u1 : u1.cell? ⟨w.heap.size, 1, none⟩ = some (.int .i64 x0_1) := hn.cell a0_1_v0
    have a0_2_u1 : u1.cell? ⟨w.heap.size, 2, none⟩ = some (.int .i64 x0_2) := hn.cell a0_2_v0
    have a0_3_u1 : u1.cell? ⟨w.heap.size, 3, none⟩ = some (.int .i64 x0_3) := hn.cell a0_3_v0
    have a1_0_u1 : u1.cell? ⟨w.heap.size + 1, 0, none⟩ = some (.int .i64 x1_0) := hn.cell a1_0_v0
    have a1_1_u1 : u1.cell? ⟨w.heap.size + 1, 1, none⟩ = some (.bool x1_1) := hn.cell a1_1_v0
    have b0_0_u1 := hc0
    have b0_1_u1 := hc1
    have N_u1 := Lib.hid (N_v0.out.trans hn)
    have z_u1 := hn.size
    have zb := hhi
    clear hc0 hc1 hn a0_0_v0 a0_1_v0 a0_2_v0 a0_3_v0 a1_0_v0 a1_1_v0
    go_upto_region 2 with fail
    go_cut [11,12,13,14] (fun p q0 q1 q2 W => CutBox u1 (.int .i64 (tiH x0_0 x0_1 x0_2 x0_3 x1_0 x2 x1_1)) (.bool (tiR x0_0 x0_1 x0_2 x0_3 x1_0 x2 x1_1)) p W ∧ q0 = .int .i64 (tiO x0_0 x0_1 x0_2 x0_3 x1_0 x2 x1_1) ∧ q1 = .int .i64 (tiS x0_0 x0_1 x0_2 x0_3 x1_0 x2) ∧ q2 = .bool (askB x0_0 x0_1 x0_2 x0_3 x1_0 x2))
    case first =>
      go_region_held3 (fun w' => w'.cell? ⟨w.heap.size, 0, none⟩ = some (.int .i64 x0_0) ∧ w'.cell? ⟨w.heap.size, 1, none⟩ = some (.int .i64 x0_1) ∧ w'.cell? ⟨w.heap.size, 2, none⟩ = some (.int .i64 x0_2) ∧ w'.cell? ⟨w.heap.size, 3, none⟩ = some (.int .i64 x0_3) ∧ w'.cell? ⟨w.heap.size + 1, 0, none⟩ = some (.int .i64 x1_0) ∧ w'.cell? ⟨w.heap.size + 1, 1, none⟩ = some (.bool x1_1) ∧ w'.cell? ⟨B0, 0, none⟩ = some (.int .i64 (tiH x0_0 x0_1 x0_2 x0_3 x1_0 x2 x1_1)) ∧ w'.cell? ⟨B0, 1, none⟩ = some (.bool (tiR x0_0 x0_1 x0_2 x0_3 x1_0 x2 x1_1)))
        (first | exact ⟨a0_0_u1, a0_1_u1, a0_2_u1, a0_3_u1, a1_0_u1, a1_1_u1, b0_0_u1, b0_1_u1⟩ | exact ⟨World.cell_kept a0_0_u1, World.cell_kept a0_1_u1, World.cell_kept a0_2_u1, World.cell_kept a0_3_u1, World.cell_kept a1_0_u1, World.cell_kept a1_1_u1, World.cell_kept b0_0_u1, World.cell_kept b0_1_u1⟩ | exact ⟨a0_0_i2w0, a0_1_i2w0, a0_2_i2w0, a0_3_i2w0, a1_0_i2w0, a1_1_i2w0, b0_0_i2w0, b0_1_i2w0⟩ | exact ⟨World.cell_kept a0_0_i2w0, World.cell_kept a0_1_i2w0, World.cell_kept a0_2_i2w0, World.cell_kept a0_3_i2w0, World.cell_kept a1_0_i2w0, World.cell_kept a1_1_i2w0, World.cell_kept b0_0_i2w0, World.cell_kept b0_1_i2w0⟩ | exact ⟨World.cell_set (World.cell_set a0_0_i2w0 (by simp; try omega)) (by simp; try omega), World.cell_set (World.cell_set a0_1_i2w0 (by simp; try omega)) (by simp; try omega), World.cell_set (World.cell_set a0_2_i2w0 (by simp; try omega)) (by simp; try omega), World.cell_set (World.cell_set a0_3_i2w0 (by simp; try omega)) (by simp; try omega), World.cell_set (World.cell_set a1_0_i2w0 (by simp; try omega)) (by simp; try omega), World.cell_set (World.cell_set a1_1_i2w0 (by simp; try omega)) (by simp; try omega), World.cell_set (World.cell_set b0_0_i2w0 (by simp; try omega)) (by simp; try omega), World.cell_set (World.cell_set b0_1_i2w0 (by simp; try omega)) (by simp; try omega)⟩ | exact ⟨a0_0_i2w1, a0_1_i2w1, a0_2_i2w1, a0_3_i2w1, a1_0_i2w1, a1_1_i2w1, b0_0_i2w1, b0_1_i2w1⟩ | exact ⟨World.cell_kept a0_0_i2w1, World.cell_kept a0_1_i2w1, World.cell_kept a0_2_i2w1, World.cell_kept a0_3_i2w1, World.cell_kept a1_0_i2w1, World.cell_kept a1_1_i2w1, World.cell_kept b0_0_i2w1, World.cell_kept b0_1_i2w1⟩ | exact ⟨World.cell_set (World.cell_set a0_0_i2w1 (by simp; try omega)) (by simp; try omega), World.cell_set (World.cell_set a0_1_i2w1 (by simp; try omega)) (by simp; try omega), World.cell_set (World.cell_set a0_2_i2w1 (by simp; try omega)) (by simp; try omega), World.cell_set (World.cell_set a0_3_i2w1 (by simp; try omega)) (by simp; try omega), World.cell_set (World.cell_set a1_0_i2w1 (by simp; try omega)) (by simp; try omega), World.cell_set (World.cell_set a1_1_i2w1 (by simp; try omega)) (by simp; try omega), World.cell_set (World.cell_set b0_0_i2w1 (by simp; try omega)) (by simp; try omega), World.cell_set (World.cell_set b0_1_i2w1 (by simp; try omega)) (by simp; try omega)⟩ | exact ⟨a0_0_i2w2, a0_1_i2w2, a0_2_i2w2, a0_3_i2w2, a1_0_i2w2, a1_1_i2w2, b0_0_i2w2, b0_1_i2w2⟩ | exact ⟨World.cell_kept a0_0_i2w2, World.cell_kept a0_1_i2w2, World.cell_kept a0_2_i2w2, World.cell_kept a0_3_i2w2, World.cell_kept a1_0_i2w2, World.cell_kept a1_1_i2w2, World.cell_kept b0_0_i2w2, World.cell_kept b0_1_i2w2⟩ | exact ⟨World.cell_set (World.cell_set a0_0_i2w2 (by simp; try omega)) (by simp; try omega), World.cell_set (World.cell_set a0_1_i2w2 (by simp; try omega)) (by simp; try omega), World.cell_set (World.cell_set a0_2_i2w2 (by simp; try omega)) (by simp; try omega), World.cell_set (World.cell_set a0_3_i2w2 (by simp; try omega)) (by simp; try omega), World.cell_set (World.cell_set a1_0_i2w2 (by simp; try omega)) (by simp; try omega), World.cell_set (World.cell_set a1_1_i2w2 (by simp; try omega)) (by simp; try omega), World.cell_set (World.cell_set b0_0_i2w2 (by simp; try omega)) (by simp; try omega), World.cell_set (World.cell_set b0_1_i2w2 (by simp; try omega)) (by simp; try omega)⟩ | fail)
        (first
          | (go_at_call 18; refine (toSiphon_any _ _ _ _ _).mono ?_; rintro e i2w0 ⟨rfl, n_i2w0⟩; (try replace n_i2w0 := New.undrew n_i2w0); have a0_0_i2w0 : i2w0.cell? ⟨w.heap.size, 0, none⟩ = some (.int .i64 x0_0) := n_i2w0.cell (by first | exact a0_0_u1 | exact World.cell_kept a0_0_u1); have a0_1_i2w0 : i2w0.cell? ⟨w.heap.size, 1, none⟩ = some (.int .i64 x0_1) := n_i2w0.cell (by first | exact a0_1_u1 | exact World.cell_kept a0_1_u1); have a0_2_i2w0 : i2w0.cell? ⟨w.heap.size, 2, none⟩ = some (.int .i64 x0_2) := n_i2w0.cell (by first | exact a0_2_u1 | exact World.cell_kept a0_2_u1); have a0_3_i2w0 : i2w0.cell? ⟨w.heap.size, 3, none⟩ = some (.int .i64 x0_3) := n_i2w0.cell (by first | exact a0_3_u1 | exact World.cell_kept a0_3_u1); have a1_0_i2w0 : i2w0.cell? ⟨w.heap.size + 1, 0, none⟩ = some (.int .i64 x1_0) := n_i2w0.cell (by first | exact a1_0_u1 | exact World.cell_kept a1_0_u1); have a1_1_i2w0 : i2w0.cell? ⟨w.heap.size + 1, 1, none⟩ = some (.bool x1_1) := n_i2w0.cell (by first | exact a1_1_u1 | exact World.cell_kept a1_1_u1); have b0_0_i2w0 : i2w0.cell? ⟨B0, 0, none⟩ = some (.int .i64 (tiH x0_0 x0_1 x0_2 x0_3 x1_0 x2 x1_1)) := n_i2w0.cell (by first | exact b0_0_u1 | exact World.cell_kept b0_0_u1); have b0_1_i2w0 : i2w0.cell? ⟨B0, 1, none⟩ = some (.bool (tiR x0_0 x0_1 x0_2 x0_3 x1_0 x2 x1_1)) := n_i2w0.cell (by first | exact b0_1_u1 | exact World.cell_kept b0_1_u1); have e_i2w0 := n_i2w0.size; (try simp only [World.size_alloc] at e_i2w0); (try (have kk := New.box n_i2w0; obtain ⟨j0, j1, j2, j3, j4⟩ := kk)); (try (have kk := New.boxed n_i2w0 j0 j1 j2 j3; clear j0 j1 j2 j3; obtain ⟨j0, j1, j2, j3⟩ := kk)); skip)
          | (go_at_call 21; refine (toLevel_any _ _ _).mono ?_; rintro e i2w1 ⟨rfl, n_i2w1⟩; (try replace n_i2w1 := New.undrew n_i2w1); have a0_0_i2w1 : i2w1.cell? ⟨w.heap.size, 0, none⟩ = some (.int .i64 x0_0) := n_i2w1.cell (by first | exact a0_0_i2w0 | exact World.cell_kept a0_0_i2w0); have a0_1_i2w1 : i2w1.cell? ⟨w.heap.size, 1, none⟩ = some (.int .i64 x0_1) := n_i2w1.cell (by first | exact a0_1_i2w0 | exact World.cell_kept a0_1_i2w0); have a0_2_i2w1 : i2w1.cell? ⟨w.heap.size, 2, none⟩ = some (.int .i64 x0_2) := n_i2w1.cell (by first | exact a0_2_i2w0 | exact World.cell_kept a0_2_i2w0); have a0_3_i2w1 : i2w1.cell? ⟨w.heap.size, 3, none⟩ = some (.int .i64 x0_3) := n_i2w1.cell (by first | exact a0_3_i2w0 | exact World.cell_kept a0_3_i2w0); have a1_0_i2w1 : i2w1.cell? ⟨w.heap.size + 1, 0, none⟩ = some (.int .i64 x1_0) := n_i2w1.cell (by first | exact a1_0_i2w0 | exact World.cell_kept a1_0_i2w0); have a1_1_i2w1 : i2w1.cell? ⟨w.heap.size + 1, 1, none⟩ = some (.bool x1_1) := n_i2w1.cell (by first | exact a1_1_i2w0 | exact World.cell_kept a1_1_i2w0); have b0_0_i2w1 : i2w1.cell? ⟨B0, 0, none⟩ = some (.int .i64 (tiH x0_0 x0_1 x0_2 x0_3 x1_0 x2 x1_1)) := n_i2w1.cell (by first | exact b0_0_i2w0 | exact World.cell_kept b0_0_i2w0); have b0_1_i2w1 : i2w1.cell? ⟨B0, 1, none⟩ = some (.bool (tiR x0_0 x0_1 x0_2 x0_3 x1_0 x2 x1_1)) := n_i2w1.cell (by first | exact b0_1_i2w0 | exact World.cell_kept b0_1_i2w0); have e_i2w1 := n_i2w1.size; (try simp only [World.size_alloc] at e_i2w1); (try (have kk := New.box n_i2w1; obtain ⟨j0, j1, j2, j3, j4⟩ := kk)); (try (have kk := New.boxed n_i2w1 j0 j1 j2 j3; clear j0 j1 j2 j3; obtain ⟨j0, j1, j2, j3⟩ := kk)); skip)
          | (go_at_call 24; refine (iTickSiphon_any _ _ _ _ _ _ _ _).mono ?_; rintro e i2w2 ⟨rfl, n_i2w2⟩; (try replace n_i2w2 := New.undrew n_i2w2); have a0_0_i2w2 : i2w2.cell? ⟨w.heap.size, 0, none⟩ = some (.int .i64 x0_0) := n_i2w2.cell (by first | exact a0_0_i2w1 | exact World.cell_kept a0_0_i2w1); have a0_1_i2w2 : i2w2.cell? ⟨w.heap.size, 1, none⟩ = some (.int .i64 x0_1) := n_i2w2.cell (by first | exact a0_1_i2w1 | exact World.cell_kept a0_1_i2w1); have a0_2_i2w2 : i2w2.cell? ⟨w.heap.size, 2, none⟩ = some (.int .i64 x0_2) := n_i2w2.cell (by first | exact a0_2_i2w1 | exact World.cell_kept a0_2_i2w1); have a0_3_i2w2 : i2w2.cell? ⟨w.heap.size, 3, none⟩ = some (.int .i64 x0_3) := n_i2w2.cell (by first | exact a0_3_i2w1 | exact World.cell_kept a0_3_i2w1); have a1_0_i2w2 : i2w2.cell? ⟨w.heap.size + 1, 0, none⟩ = some (.int .i64 x1_0) := n_i2w2.cell (by first | exact a1_0_i2w1 | exact World.cell_kept a1_0_i2w1); have a1_1_i2w2 : i2w2.cell? ⟨w.heap.size + 1, 1, none⟩ = some (.bool x1_1) := n_i2w2.cell (by first | exact a1_1_i2w1 | exact World.cell_kept a1_1_i2w1); have b0_0_i2w2 : i2w2.cell? ⟨B0, 0, none⟩ = some (.int .i64 (tiH x0_0 x0_1 x0_2 x0_3 x1_0 x2 x1_1)) := n_i2w2.cell (by first | exact b0_0_i2w1 | exact World.cell_kept b0_0_i2w1); have b0_1_i2w2 : i2w2.cell? ⟨B0, 1, none⟩ = some (.bool (tiR x0_0 x0_1 x0_2 x0_3 x1_0 x2 x1_1)) := n_i2w2.cell (by first | exact b0_1_i2w1 | exact World.cell_kept b0_1_i2w1); have e_i2w2 := n_i2w2.size; (try simp only [World.size_alloc] at e_i2w2); (try (have kk := New.box n_i2w2; obtain ⟨j0, j1, j2, j3, j4⟩ := kk)); (try (have kk := New.boxed n_i2w2 j0 j1 j2 j3; clear j0 j1 j2 j3; obtain ⟨j0, j1, j2, j3⟩ := kk)); skip))
      all_goals (go_wp2_with fail; go_meet)
      all_goals
        have m0 : New u1 i2w0 := by first | exact n_i2w0 | exact ((New.refl _).alloc _).trans n_i2w0
        have y0 := n_i2w0.size
        (try simp only [World.size_alloc] at y0)
        have v0_ := m0.size
        have m1 : New i2w0 i2w1 := by first | exact n_i2w1 | exact ((New.refl _).alloc _).trans n_i2w1
        have y1 := n_i2w1.size
        (try simp only [World.size_alloc] at y1)
        have v1_ := m1.size
        have m2 : New i2w1 i2w2 := by first | exact n_i2w2 | exact ((New.refl _).alloc _).trans n_i2w2
        have y2 := n_i2w2.size
        (try simp only [World.size_alloc] at y2)
        have v2_ := m2.size
        refine ⟨?_, rfl, rfl, rfl⟩
        first
          | exact CutBox.behind ((m0.trans m1).trans m2)
          | exact CutBox.put ((m0.trans m1).trans m2) (by omega) (by omega) j0 j1
    case rest =>
      obtain ⟨⟨B1, rfl, hn, hlo, hhi, hc0, hc1⟩, rfl, rfl, rfl⟩ := hcut
      obtain ⟨u2, rfl⟩ : ∃ u : World, u = wc := ⟨_, rfl⟩
      have a0_0_u2 : u2.cell? ⟨w.heap.size, 0, none⟩ = some (.int .i64 x0_0) := hn.cell a0_0_u1
      have a0_1_u2 : u2.cell? ⟨w.heap.size, 1, none⟩ = some (.int .i64 x0_1) := hn.cell a0_1_u1
      have a0_2_u2 : u2.cell? ⟨w.heap.size, 2, none⟩ = some (.int .i64 x0_2) := hn.cell a0_2_u1
      have a0_3_u2 : u2.cell? ⟨w.heap.size, 3, none⟩ = some (.int .i64 x0_3) := hn.cell a0_3_u1
      have a1_0_u2 : u2.cell? ⟨w.heap.size + 1, 0, none⟩ = some (.int .i64 x1_0) := hn.cell a1_0_u1
      have a1_1_u2 : u2.cell? ⟨w.heap.size + 1, 1, none⟩ = some (.bool x1_1) := hn.cell a1_1_u1
      have b0_0_u2 : u2.cell? ⟨B0, 0, none⟩ = some (.int .i64 (tiH x0_0 x0_1 x0_2 x0_3 x1_0 x2 x1_1)) := hn.cell b0_0_u1
      have b0_1_u2 : u2.cell? ⟨B0, 1, none⟩ = some (.bool (tiR x0_0 x0_1 x0_2 x0_3 x1_0 x2 x1_1)) := hn.cell b0_1_u1
      have b1_0_u2 := hc0
      have b1_1_u2 := hc1
      have N_u2 := Lib.hid (N_u1.out.trans hn)
      have z_u2 := hn.size
      clear hc0 hc1 hn a0_0_u1 a0_1_u1 a0_2_u1 a0_3_u1 a1_0_u1 a1_1_u1 b0_0_u1 b0_1_u1
      go_wp2_with fail
      refine (eqLevel_same _ _ _).mono ?_
      rintro e u3 ⟨rfl, n3⟩
      go_wp2
      go_ret
      exact ⟨rfl, N_u2.out.trans n3⟩
end Go.Proofs.Ytoobdahmjkooaaa
