/- The law of AddRatios: its walk. -/
import Derived.Test.YtklfelbolblgfaaAr
import Derived.Test.YtklfelbolblgfaaCutB
import Derived.Test.YtklfelbolblgfaaRowRatio
import Derived.Test.YtklfelbolblgfaaOpenTR
import Derived.Deep.RegionHeld3
import Derived.Deep.DeepCutAuto
namespace Go.Proofs.Ytklfelbolblgfaa
open Go.RowKit

set_option maxRecDepth 100000 in
set_option maxHeartbeats 20000000 in
theorem law_AddRatios (w : World) (x0_0 : Int) (x0_1 : Int) (x1_0 : Int) (x1_1 : Int) :
    Calls Try.prog 11 #[.agg #[.int .i64 x0_0, .int .i64 x0_1], .agg #[.int .i64 x1_0, .int .i64 x1_1]] w fun e w' => e = .returned (.bool true) ∧ New w w' := by
  go_enter Try.func11, Try.ntmps11
  go_upto_region 1 with fail
  obtain ⟨v0, hv0⟩ : ∃ v, v = ((w.alloc (.cells #[.int .i64 x0_0, .int .i64 x0_1] 40)).alloc (.cells #[.int .i64 x1_0, .int .i64 x1_1] 40)) := ⟨_, rfl⟩
  rw [← hv0]
  have b0_0_v0 : v0.cell? ⟨w.heap.size, 0, none⟩ = some (.int .i64 x0_0) := by rw [hv0]; simp [go_sem]
  have b0_1_v0 : v0.cell? ⟨w.heap.size, 1, none⟩ = some (.int .i64 x0_1) := by rw [hv0]; simp [go_sem]
  have b1_0_v0 : v0.cell? ⟨w.heap.size + 1, 0, none⟩ = some (.int .i64 x1_0) := by rw [hv0]; simp [go_sem]
  have b1_1_v0 : v0.cell? ⟨w.heap.size + 1, 1, none⟩ = some (.int .i64 x1_1) := by rw [hv0]; simp [go_sem]
  have K0 := Lib.hid (show New w v0 by rw [hv0]; exact (by repeat (first | with_reducible exact New.refl _ | with_reducible assumption | refine New.drewN ?_ _ | refine New.drew ?_ | refine New.alloc ?_ _ | refine New.setCell ?_ (by first | omega | (simp; omega) | (simp; done)) _ | (refine New.trans ?_ (by assumption)))))
  have zv0 : w.heap.size + 1 < v0.heap.size := by rw [hv0]; simp
  clear hv0
  have zf1_v0 : w.heap.size < v0.heap.size := World.block_lt_of_cell? _ _ b0_0_v0
  have zf2_v0 : w.heap.size + 1 < v0.heap.size := World.block_lt_of_cell? _ _ b1_0_v0
  go_cut [5, 6] (fun p q0 W => CutBox v0 (.int .i64 ((arM x0_0 x0_1 x1_0 x1_1).1)) (.int .i64 ((arM x0_0 x0_1 x1_0 x1_1).2)) p W ∧ q0 = .bool (arB x0_0 x0_1 x1_0 x1_1))
  case first =>
    go_region_held3 (fun w' => w'.cell? ⟨w.heap.size, 0, none⟩ = some (.int .i64 x0_0) ∧ w'.cell? ⟨w.heap.size, 1, none⟩ = some (.int .i64 x0_1) ∧ w'.cell? ⟨w.heap.size + 1, 0, none⟩ = some (.int .i64 x1_0) ∧ w'.cell? ⟨w.heap.size + 1, 1, none⟩ = some (.int .i64 x1_1))
      (first | with_reducible exact ⟨b0_0_v0, b0_1_v0, b1_0_v0, b1_1_v0⟩ | with_reducible exact ⟨World.cell_kept b0_0_v0, World.cell_kept b0_1_v0, World.cell_kept b1_0_v0, World.cell_kept b1_1_v0⟩ | with_reducible exact ⟨b0_0_u1, b0_1_u1, b1_0_u1, b1_1_u1⟩ | with_reducible exact ⟨World.cell_kept b0_0_u1, World.cell_kept b0_1_u1, World.cell_kept b1_0_u1, World.cell_kept b1_1_u1⟩ | with_reducible exact ⟨World.cell_set (World.cell_set b0_0_u1 (by simp; try omega)) (by simp; try omega), World.cell_set (World.cell_set b0_1_u1 (by simp; try omega)) (by simp; try omega), World.cell_set (World.cell_set b1_0_u1 (by simp; try omega)) (by simp; try omega), World.cell_set (World.cell_set b1_1_u1 (by simp; try omega)) (by simp; try omega)⟩ | with_reducible exact ⟨b0_0_u2, b0_1_u2, b1_0_u2, b1_1_u2⟩ | with_reducible exact ⟨World.cell_kept b0_0_u2, World.cell_kept b0_1_u2, World.cell_kept b1_0_u2, World.cell_kept b1_1_u2⟩ | with_reducible exact ⟨World.cell_set (World.cell_set b0_0_u2 (by simp; try omega)) (by simp; try omega), World.cell_set (World.cell_set b0_1_u2 (by simp; try omega)) (by simp; try omega), World.cell_set (World.cell_set b1_0_u2 (by simp; try omega)) (by simp; try omega), World.cell_set (World.cell_set b1_1_u2 (by simp; try omega)) (by simp; try omega)⟩ | with_reducible exact ⟨b0_0_u3, b0_1_u3, b1_0_u3, b1_1_u3⟩ | with_reducible exact ⟨World.cell_kept b0_0_u3, World.cell_kept b0_1_u3, World.cell_kept b1_0_u3, World.cell_kept b1_1_u3⟩ | with_reducible exact ⟨World.cell_set (World.cell_set b0_0_u3 (by simp; try omega)) (by simp; try omega), World.cell_set (World.cell_set b0_1_u3 (by simp; try omega)) (by simp; try omega), World.cell_set (World.cell_set b1_0_u3 (by simp; try omega)) (by simp; try omega), World.cell_set (World.cell_set b1_1_u3 (by simp; try omega)) (by simp; try omega)⟩ | exact ⟨b0_0_v0, b0_1_v0, b1_0_v0, b1_1_v0⟩ | exact ⟨World.cell_kept b0_0_v0, World.cell_kept b0_1_v0, World.cell_kept b1_0_v0, World.cell_kept b1_1_v0⟩ | fail)
      (first
        | (go_at_call_of 24 (Value.agg #[.int .i64 x0_0, .int .i64 x0_1]); refine (toRatio_one _ (x0_0) (x0_1)).mono ?_; rintro e u1 ⟨rfl, n_u1⟩; (try replace n_u1 := New.undrew n_u1); have b0_0_u1 : u1.cell? ⟨w.heap.size, 0, none⟩ = some (.int .i64 x0_0) := n_u1.cell (by first | exact b0_0_v0 | exact World.cell_kept b0_0_v0); have b0_1_u1 : u1.cell? ⟨w.heap.size, 1, none⟩ = some (.int .i64 x0_1) := n_u1.cell (by first | exact b0_1_v0 | exact World.cell_kept b0_1_v0); have b1_0_u1 : u1.cell? ⟨w.heap.size + 1, 0, none⟩ = some (.int .i64 x1_0) := n_u1.cell (by first | exact b1_0_v0 | exact World.cell_kept b1_0_v0); have b1_1_u1 : u1.cell? ⟨w.heap.size + 1, 1, none⟩ = some (.int .i64 x1_1) := n_u1.cell (by first | exact b1_1_v0 | exact World.cell_kept b1_1_v0); have e_u1 := n_u1.size; (try simp only [World.size_alloc] at e_u1); (try (have kk := New.box n_u1; obtain ⟨j0, j1, j2, j3, j4⟩ := kk)); (try (have kk := New.boxed n_u1 j0 j1 j2 j3; clear j0 j1 j2 j3; obtain ⟨j0, j1, j2, j3⟩ := kk)); skip)
        | (go_at_call_of 24 (Value.agg #[.int .i64 x1_0, .int .i64 x1_1]); refine (toRatio_one _ (x1_0) (x1_1)).mono ?_; rintro e u2 ⟨rfl, n_u2⟩; (try replace n_u2 := New.undrew n_u2); have b0_0_u2 : u2.cell? ⟨w.heap.size, 0, none⟩ = some (.int .i64 x0_0) := n_u2.cell (by first | exact b0_0_u1 | exact World.cell_kept b0_0_u1); have b0_1_u2 : u2.cell? ⟨w.heap.size, 1, none⟩ = some (.int .i64 x0_1) := n_u2.cell (by first | exact b0_1_u1 | exact World.cell_kept b0_1_u1); have b1_0_u2 : u2.cell? ⟨w.heap.size + 1, 0, none⟩ = some (.int .i64 x1_0) := n_u2.cell (by first | exact b1_0_u1 | exact World.cell_kept b1_0_u1); have b1_1_u2 : u2.cell? ⟨w.heap.size + 1, 1, none⟩ = some (.int .i64 x1_1) := n_u2.cell (by first | exact b1_1_u1 | exact World.cell_kept b1_1_u1); have e_u2 := n_u2.size; (try simp only [World.size_alloc] at e_u2); (try (have kk := New.box n_u2; obtain ⟨j0, j1, j2, j3, j4⟩ := kk)); (try (have kk := New.boxed n_u2 j0 j1 j2 j3; clear j0 j1 j2 j3; obtain ⟨j0, j1, j2, j3⟩ := kk)); skip)
        | (go_at_call 43; refine (sAddRatios_any _ _ _ _ _ ).mono ?_; rintro e u3 ⟨rfl, n_u3⟩; (try replace n_u3 := New.undrew n_u3); have b0_0_u3 : u3.cell? ⟨w.heap.size, 0, none⟩ = some (.int .i64 x0_0) := n_u3.cell (by first | exact b0_0_u2 | exact World.cell_kept b0_0_u2); have b0_1_u3 : u3.cell? ⟨w.heap.size, 1, none⟩ = some (.int .i64 x0_1) := n_u3.cell (by first | exact b0_1_u2 | exact World.cell_kept b0_1_u2); have b1_0_u3 : u3.cell? ⟨w.heap.size + 1, 0, none⟩ = some (.int .i64 x1_0) := n_u3.cell (by first | exact b1_0_u2 | exact World.cell_kept b1_0_u2); have b1_1_u3 : u3.cell? ⟨w.heap.size + 1, 1, none⟩ = some (.int .i64 x1_1) := n_u3.cell (by first | exact b1_1_u2 | exact World.cell_kept b1_1_u2); have e_u3 := n_u3.size; (try simp only [World.size_alloc] at e_u3); (try (have kk := New.box n_u3; obtain ⟨j0, j1, j2, j3, j4⟩ := kk)); (try (have kk := New.boxed n_u3 j0 j1 j2 j3; clear j0 j1 j2 j3; obtain ⟨j0, j1, j2, j3⟩ := kk)); skip))
    all_goals (go_wp2_with fail; go_meet)
    all_goals
      have m0 : New v0 u1 := by first | exact n_u1 | exact ((New.refl _).alloc _).trans n_u1
      have y0 := n_u1.size
      (try simp only [World.size_alloc] at y0)
      have q0_ := m0.size
      have m1 : New u1 u2 := by first | exact n_u2 | exact ((New.refl _).alloc _).trans n_u2
      have y1 := n_u2.size
      (try simp only [World.size_alloc] at y1)
      have q1_ := m1.size
      have m2 : New u2 u3 := by first | exact n_u3 | exact ((New.refl _).alloc _).trans n_u3
      have y2 := n_u3.size
      (try simp only [World.size_alloc] at y2)
      have q2_ := m2.size
      refine ⟨?_, rfl⟩
      first
        | exact CutBox.behind ((m0.trans m1).trans m2)
        | exact CutBox.put ((m0.trans m1).trans m2) (by omega) (by omega) j0 j1
  case rest =>
    obtain ⟨⟨Bu4, rfl, hn, hlo, hhi, hc0, hc1⟩, rfl⟩ := hcut
    obtain ⟨u4, rfl⟩ : ∃ u : World, u = wc := ⟨_, rfl⟩
    have b0_0_u4 : u4.cell? ⟨w.heap.size, 0, none⟩ = some (.int .i64 x0_0) := hn.cell b0_0_v0
    have b0_1_u4 : u4.cell? ⟨w.heap.size, 1, none⟩ = some (.int .i64 x0_1) := hn.cell b0_1_v0
    have b1_0_u4 : u4.cell? ⟨w.heap.size + 1, 0, none⟩ = some (.int .i64 x1_0) := hn.cell b1_0_v0
    have b1_1_u4 : u4.cell? ⟨w.heap.size + 1, 1, none⟩ = some (.int .i64 x1_1) := hn.cell b1_1_v0
    clear b0_0_v0 b0_1_v0 b1_0_v0 b1_1_v0
    have u4c_0_u4 := hc0
    have u4c_1_u4 := hc1
    have Ku4 := Lib.hid (show New v0 u4 from hn); have zu4 := hn.size; clear hc0 hc1 hn
    go_upto_region 2 with fail
    have zf1_u4 : w.heap.size < u4.heap.size := World.block_lt_of_cell? _ _ b0_0_u4
    have zf2_u4 : w.heap.size + 1 < u4.heap.size := World.block_lt_of_cell? _ _ b1_0_u4
    have zf3_u4 : Bu4 < u4.heap.size := World.block_lt_of_cell? _ _ u4c_0_u4
    go_cut [7, 8] (fun p q0 W => CutBox u4 (.int .i64 ((arM x0_0 x0_1 x1_0 x1_1).1)) (.int .i64 ((arM x0_0 x0_1 x1_0 x1_1).2)) p W ∧ q0 = .bool (arB x0_0 x0_1 x1_0 x1_1))
    case first =>
      go_region_held3 (fun w' => w'.cell? ⟨w.heap.size, 0, none⟩ = some (.int .i64 x0_0) ∧ w'.cell? ⟨w.heap.size, 1, none⟩ = some (.int .i64 x0_1) ∧ w'.cell? ⟨w.heap.size + 1, 0, none⟩ = some (.int .i64 x1_0) ∧ w'.cell? ⟨w.heap.size + 1, 1, none⟩ = some (.int .i64 x1_1) ∧ w'.cell? ⟨Bu4, 0, none⟩ = some (.int .i64 ((arM x0_0 x0_1 x1_0 x1_1).1)) ∧ w'.cell? ⟨Bu4, 1, none⟩ = some (.int .i64 ((arM x0_0 x0_1 x1_0 x1_1).2)))
        (first | with_reducible exact ⟨b0_0_u4, b0_1_u4, b1_0_u4, b1_1_u4, u4c_0_u4, u4c_1_u4⟩ | with_reducible exact ⟨World.cell_kept b0_0_u4, World.cell_kept b0_1_u4, World.cell_kept b1_0_u4, World.cell_kept b1_1_u4, World.cell_kept u4c_0_u4, World.cell_kept u4c_1_u4⟩ | with_reducible exact ⟨b0_0_u5, b0_1_u5, b1_0_u5, b1_1_u5, u4c_0_u5, u4c_1_u5⟩ | with_reducible exact ⟨World.cell_kept b0_0_u5, World.cell_kept b0_1_u5, World.cell_kept b1_0_u5, World.cell_kept b1_1_u5, World.cell_kept u4c_0_u5, World.cell_kept u4c_1_u5⟩ | with_reducible exact ⟨World.cell_set (World.cell_set b0_0_u5 (by simp; try omega)) (by simp; try omega), World.cell_set (World.cell_set b0_1_u5 (by simp; try omega)) (by simp; try omega), World.cell_set (World.cell_set b1_0_u5 (by simp; try omega)) (by simp; try omega), World.cell_set (World.cell_set b1_1_u5 (by simp; try omega)) (by simp; try omega), World.cell_set (World.cell_set u4c_0_u5 (by simp; try omega)) (by simp; try omega), World.cell_set (World.cell_set u4c_1_u5 (by simp; try omega)) (by simp; try omega)⟩ | with_reducible exact ⟨b0_0_u6, b0_1_u6, b1_0_u6, b1_1_u6, u4c_0_u6, u4c_1_u6⟩ | with_reducible exact ⟨World.cell_kept b0_0_u6, World.cell_kept b0_1_u6, World.cell_kept b1_0_u6, World.cell_kept b1_1_u6, World.cell_kept u4c_0_u6, World.cell_kept u4c_1_u6⟩ | with_reducible exact ⟨World.cell_set (World.cell_set b0_0_u6 (by simp; try omega)) (by simp; try omega), World.cell_set (World.cell_set b0_1_u6 (by simp; try omega)) (by simp; try omega), World.cell_set (World.cell_set b1_0_u6 (by simp; try omega)) (by simp; try omega), World.cell_set (World.cell_set b1_1_u6 (by simp; try omega)) (by simp; try omega), World.cell_set (World.cell_set u4c_0_u6 (by simp; try omega)) (by simp; try omega), World.cell_set (World.cell_set u4c_1_u6 (by simp; try omega)) (by simp; try omega)⟩ | with_reducible exact ⟨b0_0_u7, b0_1_u7, b1_0_u7, b1_1_u7, u4c_0_u7, u4c_1_u7⟩ | with_reducible exact ⟨World.cell_kept b0_0_u7, World.cell_kept b0_1_u7, World.cell_kept b1_0_u7, World.cell_kept b1_1_u7, World.cell_kept u4c_0_u7, World.cell_kept u4c_1_u7⟩ | with_reducible exact ⟨World.cell_set (World.cell_set b0_0_u7 (by simp; try omega)) (by simp; try omega), World.cell_set (World.cell_set b0_1_u7 (by simp; try omega)) (by simp; try omega), World.cell_set (World.cell_set b1_0_u7 (by simp; try omega)) (by simp; try omega), World.cell_set (World.cell_set b1_1_u7 (by simp; try omega)) (by simp; try omega), World.cell_set (World.cell_set u4c_0_u7 (by simp; try omega)) (by simp; try omega), World.cell_set (World.cell_set u4c_1_u7 (by simp; try omega)) (by simp; try omega)⟩ | exact ⟨b0_0_u4, b0_1_u4, b1_0_u4, b1_1_u4, u4c_0_u4, u4c_1_u4⟩ | exact ⟨World.cell_kept b0_0_u4, World.cell_kept b0_1_u4, World.cell_kept b1_0_u4, World.cell_kept b1_1_u4, World.cell_kept u4c_0_u4, World.cell_kept u4c_1_u4⟩ | fail)
        (first
          | (go_at_call_of 24 (Value.agg #[.int .i64 x0_0, .int .i64 x0_1]); refine (toRatio_one _ (x0_0) (x0_1)).mono ?_; rintro e u5 ⟨rfl, n_u5⟩; (try replace n_u5 := New.undrew n_u5); have b0_0_u5 : u5.cell? ⟨w.heap.size, 0, none⟩ = some (.int .i64 x0_0) := n_u5.cell (by first | exact b0_0_u4 | exact World.cell_kept b0_0_u4); have b0_1_u5 : u5.cell? ⟨w.heap.size, 1, none⟩ = some (.int .i64 x0_1) := n_u5.cell (by first | exact b0_1_u4 | exact World.cell_kept b0_1_u4); have b1_0_u5 : u5.cell? ⟨w.heap.size + 1, 0, none⟩ = some (.int .i64 x1_0) := n_u5.cell (by first | exact b1_0_u4 | exact World.cell_kept b1_0_u4); have b1_1_u5 : u5.cell? ⟨w.heap.size + 1, 1, none⟩ = some (.int .i64 x1_1) := n_u5.cell (by first | exact b1_1_u4 | exact World.cell_kept b1_1_u4); have u4c_0_u5 : u5.cell? ⟨Bu4, 0, none⟩ = some (.int .i64 ((arM x0_0 x0_1 x1_0 x1_1).1)) := n_u5.cell (by first | exact u4c_0_u4 | exact World.cell_kept u4c_0_u4); have u4c_1_u5 : u5.cell? ⟨Bu4, 1, none⟩ = some (.int .i64 ((arM x0_0 x0_1 x1_0 x1_1).2)) := n_u5.cell (by first | exact u4c_1_u4 | exact World.cell_kept u4c_1_u4); have e_u5 := n_u5.size; (try simp only [World.size_alloc] at e_u5); (try (have kk := New.box n_u5; obtain ⟨j0, j1, j2, j3, j4⟩ := kk)); (try (have kk := New.boxed n_u5 j0 j1 j2 j3; clear j0 j1 j2 j3; obtain ⟨j0, j1, j2, j3⟩ := kk)); skip)
          | (go_at_call_of 24 (Value.agg #[.int .i64 x1_0, .int .i64 x1_1]); refine (toRatio_one _ (x1_0) (x1_1)).mono ?_; rintro e u6 ⟨rfl, n_u6⟩; (try replace n_u6 := New.undrew n_u6); have b0_0_u6 : u6.cell? ⟨w.heap.size, 0, none⟩ = some (.int .i64 x0_0) := n_u6.cell (by first | exact b0_0_u5 | exact World.cell_kept b0_0_u5); have b0_1_u6 : u6.cell? ⟨w.heap.size, 1, none⟩ = some (.int .i64 x0_1) := n_u6.cell (by first | exact b0_1_u5 | exact World.cell_kept b0_1_u5); have b1_0_u6 : u6.cell? ⟨w.heap.size + 1, 0, none⟩ = some (.int .i64 x1_0) := n_u6.cell (by first | exact b1_0_u5 | exact World.cell_kept b1_0_u5); have b1_1_u6 : u6.cell? ⟨w.heap.size + 1, 1, none⟩ = some (.int .i64 x1_1) := n_u6.cell (by first | exact b1_1_u5 | exact World.cell_kept b1_1_u5); have u4c_0_u6 : u6.cell? ⟨Bu4, 0, none⟩ = some (.int .i64 ((arM x0_0 x0_1 x1_0 x1_1).1)) := n_u6.cell (by first | exact u4c_0_u5 | exact World.cell_kept u4c_0_u5); have u4c_1_u6 : u6.cell? ⟨Bu4, 1, none⟩ = some (.int .i64 ((arM x0_0 x0_1 x1_0 x1_1).2)) := n_u6.cell (by first | exact u4c_1_u5 | exact World.cell_kept u4c_1_u5); have e_u6 := n_u6.size; (try simp only [World.size_alloc] at e_u6); (try (have kk := New.box n_u6; obtain ⟨j0, j1, j2, j3, j4⟩ := kk)); (try (have kk := New.boxed n_u6 j0 j1 j2 j3; clear j0 j1 j2 j3; obtain ⟨j0, j1, j2, j3⟩ := kk)); skip)
          | (go_at_call 44; refine (iAddRatios_any _ _ _ _ _ ).mono ?_; rintro e u7 ⟨rfl, n_u7⟩; (try replace n_u7 := New.undrew n_u7); have b0_0_u7 : u7.cell? ⟨w.heap.size, 0, none⟩ = some (.int .i64 x0_0) := n_u7.cell (by first | exact b0_0_u6 | exact World.cell_kept b0_0_u6); have b0_1_u7 : u7.cell? ⟨w.heap.size, 1, none⟩ = some (.int .i64 x0_1) := n_u7.cell (by first | exact b0_1_u6 | exact World.cell_kept b0_1_u6); have b1_0_u7 : u7.cell? ⟨w.heap.size + 1, 0, none⟩ = some (.int .i64 x1_0) := n_u7.cell (by first | exact b1_0_u6 | exact World.cell_kept b1_0_u6); have b1_1_u7 : u7.cell? ⟨w.heap.size + 1, 1, none⟩ = some (.int .i64 x1_1) := n_u7.cell (by first | exact b1_1_u6 | exact World.cell_kept b1_1_u6); have u4c_0_u7 : u7.cell? ⟨Bu4, 0, none⟩ = some (.int .i64 ((arM x0_0 x0_1 x1_0 x1_1).1)) := n_u7.cell (by first | exact u4c_0_u6 | exact World.cell_kept u4c_0_u6); have u4c_1_u7 : u7.cell? ⟨Bu4, 1, none⟩ = some (.int .i64 ((arM x0_0 x0_1 x1_0 x1_1).2)) := n_u7.cell (by first | exact u4c_1_u6 | exact World.cell_kept u4c_1_u6); have e_u7 := n_u7.size; (try simp only [World.size_alloc] at e_u7); (try (have kk := New.box n_u7; obtain ⟨j0, j1, j2, j3, j4⟩ := kk)); (try (have kk := New.boxed n_u7 j0 j1 j2 j3; clear j0 j1 j2 j3; obtain ⟨j0, j1, j2, j3⟩ := kk)); skip))
      all_goals (go_wp2_with fail; go_meet)
      all_goals
        have m0 : New u4 u5 := by first | exact n_u5 | exact ((New.refl _).alloc _).trans n_u5
        have y0 := n_u5.size
        (try simp only [World.size_alloc] at y0)
        have q0_ := m0.size
        have m1 : New u5 u6 := by first | exact n_u6 | exact ((New.refl _).alloc _).trans n_u6
        have y1 := n_u6.size
        (try simp only [World.size_alloc] at y1)
        have q1_ := m1.size
        have m2 : New u6 u7 := by first | exact n_u7 | exact ((New.refl _).alloc _).trans n_u7
        have y2 := n_u7.size
        (try simp only [World.size_alloc] at y2)
        have q2_ := m2.size
        refine ⟨?_, rfl⟩
        first
          | exact CutBox.behind ((m0.trans m1).trans m2)
          | exact CutBox.put ((m0.trans m1).trans m2) (by omega) (by omega) j0 j1
    case rest =>
      obtain ⟨⟨Bu8, rfl, hn, hlo, hhi, hc0, hc1⟩, rfl⟩ := hcut
      obtain ⟨u8, rfl⟩ : ∃ u : World, u = wc := ⟨_, rfl⟩
      have b0_0_u8 : u8.cell? ⟨w.heap.size, 0, none⟩ = some (.int .i64 x0_0) := hn.cell b0_0_u4
      have b0_1_u8 : u8.cell? ⟨w.heap.size, 1, none⟩ = some (.int .i64 x0_1) := hn.cell b0_1_u4
      have b1_0_u8 : u8.cell? ⟨w.heap.size + 1, 0, none⟩ = some (.int .i64 x1_0) := hn.cell b1_0_u4
      have b1_1_u8 : u8.cell? ⟨w.heap.size + 1, 1, none⟩ = some (.int .i64 x1_1) := hn.cell b1_1_u4
      have u4c_0_u8 : u8.cell? ⟨Bu4, 0, none⟩ = some (.int .i64 ((arM x0_0 x0_1 x1_0 x1_1).1)) := hn.cell u4c_0_u4
      have u4c_1_u8 : u8.cell? ⟨Bu4, 1, none⟩ = some (.int .i64 ((arM x0_0 x0_1 x1_0 x1_1).2)) := hn.cell u4c_1_u4
      clear b0_0_u4 b0_1_u4 b1_0_u4 b1_1_u4 u4c_0_u4 u4c_1_u4
      have u8c_0_u8 := hc0
      have u8c_1_u8 := hc1
      have Ku8 := Lib.hid (show New u4 u8 from hn); have zu8 := hn.size; clear hc0 hc1 hn
      go_wp2_with fail
      refine (eqRatio_one _ _ _).mono ?_
      rintro e u9 ⟨rfl, n_u9⟩
      have b0_0_u9 : u9.cell? ⟨w.heap.size, 0, none⟩ = some (.int .i64 x0_0) := n_u9.cell b0_0_u8
      have b0_1_u9 : u9.cell? ⟨w.heap.size, 1, none⟩ = some (.int .i64 x0_1) := n_u9.cell b0_1_u8
      have b1_0_u9 : u9.cell? ⟨w.heap.size + 1, 0, none⟩ = some (.int .i64 x1_0) := n_u9.cell b1_0_u8
      have b1_1_u9 : u9.cell? ⟨w.heap.size + 1, 1, none⟩ = some (.int .i64 x1_1) := n_u9.cell b1_1_u8
      have u4c_0_u9 : u9.cell? ⟨Bu4, 0, none⟩ = some (.int .i64 ((arM x0_0 x0_1 x1_0 x1_1).1)) := n_u9.cell u4c_0_u8
      have u4c_1_u9 : u9.cell? ⟨Bu4, 1, none⟩ = some (.int .i64 ((arM x0_0 x0_1 x1_0 x1_1).2)) := n_u9.cell u4c_1_u8
      have u8c_0_u9 : u9.cell? ⟨Bu8, 0, none⟩ = some (.int .i64 ((arM x0_0 x0_1 x1_0 x1_1).1)) := n_u9.cell u8c_0_u8
      have u8c_1_u9 : u9.cell? ⟨Bu8, 1, none⟩ = some (.int .i64 ((arM x0_0 x0_1 x1_0 x1_1).2)) := n_u9.cell u8c_1_u8
      have Ku9 := Lib.hid n_u9; clear n_u9
      clear b0_0_u8 b0_1_u8 b1_0_u8 b1_1_u8 u4c_0_u8 u4c_1_u8 u8c_0_u8 u8c_1_u8
      go_wp2
      go_ret
      exact ⟨rfl, (((K0.out.trans Ku4.out).trans Ku8.out).trans Ku9.out)⟩
end Go.Proofs.Ytklfelbolblgfaa
