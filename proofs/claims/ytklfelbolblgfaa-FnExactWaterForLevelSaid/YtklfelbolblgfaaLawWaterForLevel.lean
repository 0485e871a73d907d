/- The law of WaterForLevel: its walk. -/
import Derived.Test.YtklfelbolblgfaaWf
import Derived.Test.YtklfelbolblgfaaCutB
import Derived.Test.YtklfelbolblgfaaRowRatio
import Derived.Test.YtklfelbolblgfaaRowOpenTank
import Derived.Test.YtklfelbolblgfaaOpenTR
import Derived.Deep.RegionHeld3
import Derived.Deep.DeepCutAuto
namespace Go.Proofs.Ytklfelbolblgfaa
open Go.RowKit

set_option maxRecDepth 100000 in
set_option maxHeartbeats 20000000 in
theorem law_WaterForLevel (w : World) (a0 : Option Addr) (n0 c0 : Nat) (l0 : List (Int × Int × Int)) (x1_0 : Int) (x1_1 : Int) (h0 : Tanks w a0 n0 c0 l0) :
    Calls Try.prog 7 #[.slice a0 n0 c0, .agg #[.int .i64 x1_0, .int .i64 x1_1]] w fun e w' => e = .returned (.bool true) ∧ New w w' := by
  have HA0 := Lib.hid h0; clear h0
  have qA0 := HA0.out.2.2.1
  go_enter Try.func7, Try.ntmps7
  go_wp2_with fail
  refine (szTankS_any _ _ _ _ _ qA0 (by omega) (by omega)).mono ?_
  rintro e z1 ⟨rz1, rfl, g1z1, g2z1, g3z1, n_z1⟩
  have Gz1 := Lib.hid g3z1; clear g3z1
  have b0_0_z1 : z1.cell? ⟨w.heap.size, 0, none⟩ = some (.int .i64 x1_0) := n_z1.cell (by simp [go_sem])
  have b0_1_z1 : z1.cell? ⟨w.heap.size, 1, none⟩ = some (.int .i64 x1_1) := n_z1.cell (by simp [go_sem])
  have Kz1 := Lib.hid (show New w z1 from New.trans (by repeat (first | with_reducible exact New.refl _ | with_reducible assumption | refine New.drewN ?_ _ | refine New.drew ?_ | refine New.alloc ?_ _ | refine New.setCell ?_ (by first | omega | (simp; omega) | (simp; done)) _ | (refine New.trans ?_ (by assumption)))) n_z1); clear n_z1
  by_cases hrz1 : rz1 < 0
  · go_wp2
    go_ret
    exact ⟨rfl, Kz1.out⟩
  · have hn0 : n0 ≤ 1048576 := by have := (Gz1.out (by omega)).1; omega
    go_upto_region 5 with fail
    have zf1_z1 : w.heap.size < z1.heap.size := World.block_lt_of_cell? _ _ b0_0_z1
    go_cut [6, 7] (fun p q0 W => CutBox z1 (.int .i64 ((wfM l0 x1_0 x1_1).1)) (.int .i64 ((wfM l0 x1_0 x1_1).2)) p W ∧ q0 = .bool (wfB l0 x1_0 x1_1))
    case first =>
      go_region_held3 (fun w' => w'.cell? ⟨w.heap.size, 0, none⟩ = some (.int .i64 x1_0) ∧ w'.cell? ⟨w.heap.size, 1, none⟩ = some (.int .i64 x1_1))
        (first | with_reducible exact ⟨b0_0_z1, b0_1_z1⟩ | with_reducible exact ⟨World.cell_kept b0_0_z1, World.cell_kept b0_1_z1⟩ | with_reducible exact ⟨b0_0_u2, b0_1_u2⟩ | with_reducible exact ⟨World.cell_kept b0_0_u2, World.cell_kept b0_1_u2⟩ | with_reducible exact ⟨World.cell_set (World.cell_set b0_0_u2 (by simp; try omega)) (by simp; try omega), World.cell_set (World.cell_set b0_1_u2 (by simp; try omega)) (by simp; try omega)⟩ | with_reducible exact ⟨b0_0_u3, b0_1_u3⟩ | with_reducible exact ⟨World.cell_kept b0_0_u3, World.cell_kept b0_1_u3⟩ | with_reducible exact ⟨World.cell_set (World.cell_set b0_0_u3 (by simp; try omega)) (by simp; try omega), World.cell_set (World.cell_set b0_1_u3 (by simp; try omega)) (by simp; try omega)⟩ | with_reducible exact ⟨b0_0_u4, b0_1_u4⟩ | with_reducible exact ⟨World.cell_kept b0_0_u4, World.cell_kept b0_1_u4⟩ | with_reducible exact ⟨World.cell_set (World.cell_set b0_0_u4 (by simp; try omega)) (by simp; try omega), World.cell_set (World.cell_set b0_1_u4 (by simp; try omega)) (by simp; try omega)⟩ | exact ⟨b0_0_z1, b0_1_z1⟩ | exact ⟨World.cell_kept b0_0_z1, World.cell_kept b0_1_z1⟩ | fail)
        (first
          | (go_at_call 20; refine (toTankS_any _ _ _ _ _ ((HA0.out.new Kz1.out).new (by repeat (first | with_reducible exact New.refl _ | with_reducible assumption | refine New.drewN ?_ _ | refine New.drew ?_ | refine New.alloc ?_ _ | refine New.setCell ?_ (by first | omega | (simp; omega) | (simp; done)) _ | (refine New.trans ?_ (by assumption))))) hn0).mono ?_; rintro e u2 ⟨x0a, x0c, rfl, oX0, n_u2⟩; (try replace n_u2 := New.undrew n_u2); have b0_0_u2 : u2.cell? ⟨w.heap.size, 0, none⟩ = some (.int .i64 x1_0) := n_u2.cell (by first | exact b0_0_z1 | exact World.cell_kept b0_0_z1); have b0_1_u2 : u2.cell? ⟨w.heap.size, 1, none⟩ = some (.int .i64 x1_1) := n_u2.cell (by first | exact b0_1_z1 | exact World.cell_kept b0_1_z1); have e_u2 := n_u2.size; (try simp only [World.size_alloc] at e_u2); (try (have kk := New.box n_u2; obtain ⟨j0, j1, j2, j3, j4⟩ := kk)); (try (have kk := New.boxed n_u2 j0 j1 j2 j3; clear j0 j1 j2 j3; obtain ⟨j0, j1, j2, j3⟩ := kk)); skip)
          | (go_at_call_of 24 (Value.agg #[.int .i64 x1_0, .int .i64 x1_1]); refine (toRatio_one _ (x1_0) (x1_1)).mono ?_; rintro e u3 ⟨rfl, n_u3⟩; (try replace n_u3 := New.undrew n_u3); have b0_0_u3 : u3.cell? ⟨w.heap.size, 0, none⟩ = some (.int .i64 x1_0) := n_u3.cell (by first | exact b0_0_u2 | exact World.cell_kept b0_0_u2); have b0_1_u3 : u3.cell? ⟨w.heap.size, 1, none⟩ = some (.int .i64 x1_1) := n_u3.cell (by first | exact b0_1_u2 | exact World.cell_kept b0_1_u2); have e_u3 := n_u3.size; (try simp only [World.size_alloc] at e_u3); (try (have kk := New.box n_u3; obtain ⟨j0, j1, j2, j3, j4⟩ := kk)); (try (have kk := New.boxed n_u3 j0 j1 j2 j3; clear j0 j1 j2 j3; obtain ⟨j0, j1, j2, j3⟩ := kk)); skip)
          | (go_at_call 26; refine (sWaterForLevel_any _ _ _ _ _ _ _ (oX0.reads.new (by repeat (first | with_reducible exact New.refl _ | with_reducible assumption | refine New.drewN ?_ _ | refine New.drew ?_ | refine New.alloc ?_ _ | refine New.setCell ?_ (by first | omega | (simp; omega) | (simp; done)) _ | (refine New.trans ?_ (by assumption)))))).mono ?_; rintro e u4 ⟨rfl, n_u4⟩; (try replace n_u4 := New.undrew n_u4); have b0_0_u4 : u4.cell? ⟨w.heap.size, 0, none⟩ = some (.int .i64 x1_0) := n_u4.cell (by first | exact b0_0_u3 | exact World.cell_kept b0_0_u3); have b0_1_u4 : u4.cell? ⟨w.heap.size, 1, none⟩ = some (.int .i64 x1_1) := n_u4.cell (by first | exact b0_1_u3 | exact World.cell_kept b0_1_u3); have e_u4 := n_u4.size; (try simp only [World.size_alloc] at e_u4); (try (have kk := New.box n_u4; obtain ⟨j0, j1, j2, j3, j4⟩ := kk)); (try (have kk := New.boxed n_u4 j0 j1 j2 j3; clear j0 j1 j2 j3; obtain ⟨j0, j1, j2, j3⟩ := kk)); skip))
      all_goals (go_wp2_with fail; go_meet)
      all_goals
        have m0 : New z1 u2 := by first | exact n_u2 | exact ((New.refl _).alloc _).trans n_u2
        have y0 := n_u2.size
        (try simp only [World.size_alloc] at y0)
        have q0_ := m0.size
        have m1 : New u2 u3 := by first | exact n_u3 | exact ((New.refl _).alloc _).trans n_u3
        have y1 := n_u3.size
        (try simp only [World.size_alloc] at y1)
        have q1_ := m1.size
        have m2 : New u3 u4 := by first | exact n_u4 | exact ((New.refl _).alloc _).trans n_u4
        have y2 := n_u4.size
        (try simp only [World.size_alloc] at y2)
        have q2_ := m2.size
        refine ⟨?_, rfl⟩
        first
          | exact CutBox.behind ((m0.trans m1).trans m2)
          | exact CutBox.put ((m0.trans m1).trans m2) (by omega) (by omega) j0 j1
    case rest =>
      obtain ⟨⟨Bu5, rfl, hn, hlo, hhi, hc0, hc1⟩, rfl⟩ := hcut
      obtain ⟨u5, rfl⟩ : ∃ u : World, u = wc := ⟨_, rfl⟩
      have b0_0_u5 : u5.cell? ⟨w.heap.size, 0, none⟩ = some (.int .i64 x1_0) := hn.cell b0_0_z1
      have b0_1_u5 : u5.cell? ⟨w.heap.size, 1, none⟩ = some (.int .i64 x1_1) := hn.cell b0_1_z1
      clear b0_0_z1 b0_1_z1
      have u5c_0_u5 := hc0
      have u5c_1_u5 := hc1
      have Ku5 := Lib.hid (show New z1 u5 from hn); have zu5 := hn.size; clear hc0 hc1 hn
      go_wp2_with fail
      refine (toTankS_any _ _ _ _ _ (HA0.out.new (Kz1.out.trans Ku5.out)) hn0).mono ?_
      rintro e u6 ⟨x1a, x1c, rfl, oX1, n_u6⟩
      have b0_0_u6 : u6.cell? ⟨w.heap.size, 0, none⟩ = some (.int .i64 x1_0) := n_u6.cell b0_0_u5
      have b0_1_u6 : u6.cell? ⟨w.heap.size, 1, none⟩ = some (.int .i64 x1_1) := n_u6.cell b0_1_u5
      have u5c_0_u6 : u6.cell? ⟨Bu5, 0, none⟩ = some (.int .i64 ((wfM l0 x1_0 x1_1).1)) := n_u6.cell u5c_0_u5
      have u5c_1_u6 : u6.cell? ⟨Bu5, 1, none⟩ = some (.int .i64 ((wfM l0 x1_0 x1_1).2)) := n_u6.cell u5c_1_u5
      have Ku6 := Lib.hid n_u6; clear n_u6
      clear b0_0_u5 b0_1_u5 u5c_0_u5 u5c_1_u5
      have OX1 := Lib.hid oX1; clear oX1
      go_wp2_with fail
      refine (toRatio_one _ _ _).mono ?_
      rintro e u7 ⟨rfl, n_u7⟩
      have b0_0_u7 : u7.cell? ⟨w.heap.size, 0, none⟩ = some (.int .i64 x1_0) := n_u7.cell b0_0_u6
      have b0_1_u7 : u7.cell? ⟨w.heap.size, 1, none⟩ = some (.int .i64 x1_1) := n_u7.cell b0_1_u6
      have u5c_0_u7 : u7.cell? ⟨Bu5, 0, none⟩ = some (.int .i64 ((wfM l0 x1_0 x1_1).1)) := n_u7.cell u5c_0_u6
      have u5c_1_u7 : u7.cell? ⟨Bu5, 1, none⟩ = some (.int .i64 ((wfM l0 x1_0 x1_1).2)) := n_u7.cell u5c_1_u6
      have Ku7 := Lib.hid n_u7; clear n_u7
      clear b0_0_u6 b0_1_u6 u5c_0_u6 u5c_1_u6
      go_wp2_with fail
      refine (iWaterForLevel_any _ _ _ _ _ _ _ (OX1.out.new Ku7.out).reads).mono ?_
      rintro e u8 ⟨rfl, n_u8⟩
      have b0_0_u8 : u8.cell? ⟨w.heap.size, 0, none⟩ = some (.int .i64 x1_0) := n_u8.cell b0_0_u7
      have b0_1_u8 : u8.cell? ⟨w.heap.size, 1, none⟩ = some (.int .i64 x1_1) := n_u8.cell b0_1_u7
      have u5c_0_u8 : u8.cell? ⟨Bu5, 0, none⟩ = some (.int .i64 ((wfM l0 x1_0 x1_1).1)) := n_u8.cell u5c_0_u7
      have u5c_1_u8 : u8.cell? ⟨Bu5, 1, none⟩ = some (.int .i64 ((wfM l0 x1_0 x1_1).2)) := n_u8.cell u5c_1_u7
      have Ku8 := Lib.hid n_u8; clear n_u8
      clear b0_0_u7 b0_1_u7 u5c_0_u7 u5c_1_u7
      go_upto_region 8 with fail
      obtain ⟨v9, hv9⟩ : ∃ v, v = u8.alloc (.cells #[.int .i64 ((wfM l0 x1_0 x1_1).1), .int .i64 ((wfM l0 x1_0 x1_1).2)] 29) := ⟨_, rfl⟩
      rw [← hv9]
      have b0_0_v9 : v9.cell? ⟨w.heap.size, 0, none⟩ = some (.int .i64 x1_0) := by rw [hv9]; exact World.cell_kept b0_0_u8
      have b0_1_v9 : v9.cell? ⟨w.heap.size, 1, none⟩ = some (.int .i64 x1_1) := by rw [hv9]; exact World.cell_kept b0_1_u8
      have u5c_0_v9 : v9.cell? ⟨Bu5, 0, none⟩ = some (.int .i64 ((wfM l0 x1_0 x1_1).1)) := by rw [hv9]; exact World.cell_kept u5c_0_u8
      have u5c_1_v9 : v9.cell? ⟨Bu5, 1, none⟩ = some (.int .i64 ((wfM l0 x1_0 x1_1).2)) := by rw [hv9]; exact World.cell_kept u5c_1_u8
      clear b0_0_u8 b0_1_u8 u5c_0_u8 u5c_1_u8
      have v9c_0_v9 : v9.cell? ⟨u8.heap.size, 0, none⟩ = some (.int .i64 ((wfM l0 x1_0 x1_1).1)) := by rw [hv9]; simp [go_sem]
      have v9c_1_v9 : v9.cell? ⟨u8.heap.size, 1, none⟩ = some (.int .i64 ((wfM l0 x1_0 x1_1).2)) := by rw [hv9]; simp [go_sem]
      have Kv9 := Lib.hid (show New u8 v9 by rw [hv9]; exact (by repeat (first | with_reducible exact New.refl _ | with_reducible assumption | refine New.drewN ?_ _ | refine New.drew ?_ | refine New.alloc ?_ _ | refine New.setCell ?_ (by first | omega | (simp; omega) | (simp; done)) _ | (refine New.trans ?_ (by assumption)))))
      clear hv9
      go_wp2_with fail
      refine (eqRatio_one _ _ _).mono ?_
      rintro e u10 ⟨rfl, n_u10⟩
      have b0_0_u10 : u10.cell? ⟨w.heap.size, 0, none⟩ = some (.int .i64 x1_0) := n_u10.cell b0_0_v9
      have b0_1_u10 : u10.cell? ⟨w.heap.size, 1, none⟩ = some (.int .i64 x1_1) := n_u10.cell b0_1_v9
      have u5c_0_u10 : u10.cell? ⟨Bu5, 0, none⟩ = some (.int .i64 ((wfM l0 x1_0 x1_1).1)) := n_u10.cell u5c_0_v9
      have u5c_1_u10 : u10.cell? ⟨Bu5, 1, none⟩ = some (.int .i64 ((wfM l0 x1_0 x1_1).2)) := n_u10.cell u5c_1_v9
      have v9c_0_u10 : u10.cell? ⟨u8.heap.size, 0, none⟩ = some (.int .i64 ((wfM l0 x1_0 x1_1).1)) := n_u10.cell v9c_0_v9
      have v9c_1_u10 : u10.cell? ⟨u8.heap.size, 1, none⟩ = some (.int .i64 ((wfM l0 x1_0 x1_1).2)) := n_u10.cell v9c_1_v9
      have Ku10 := Lib.hid n_u10; clear n_u10
      clear b0_0_v9 b0_1_v9 u5c_0_v9 u5c_1_v9 v9c_0_v9 v9c_1_v9
      go_wp2_with fail
      refine (toTankS_any _ _ _ _ _ (HA0.out.new ((((((Kz1.out.trans Ku5.out).trans Ku6.out).trans Ku7.out).trans Ku8.out).trans Kv9.out).trans Ku10.out)) hn0).mono ?_
      rintro e u11 ⟨x2a, x2c, rfl, oX2, n_u11⟩
      have b0_0_u11 : u11.cell? ⟨w.heap.size, 0, none⟩ = some (.int .i64 x1_0) := n_u11.cell b0_0_u10
      have b0_1_u11 : u11.cell? ⟨w.heap.size, 1, none⟩ = some (.int .i64 x1_1) := n_u11.cell b0_1_u10
      have u5c_0_u11 : u11.cell? ⟨Bu5, 0, none⟩ = some (.int .i64 ((wfM l0 x1_0 x1_1).1)) := n_u11.cell u5c_0_u10
      have u5c_1_u11 : u11.cell? ⟨Bu5, 1, none⟩ = some (.int .i64 ((wfM l0 x1_0 x1_1).2)) := n_u11.cell u5c_1_u10
      have v9c_0_u11 : u11.cell? ⟨u8.heap.size, 0, none⟩ = some (.int .i64 ((wfM l0 x1_0 x1_1).1)) := n_u11.cell v9c_0_u10
      have v9c_1_u11 : u11.cell? ⟨u8.heap.size, 1, none⟩ = some (.int .i64 ((wfM l0 x1_0 x1_1).2)) := n_u11.cell v9c_1_u10
      have Ku11 := Lib.hid n_u11; clear n_u11
      clear b0_0_u10 b0_1_u10 u5c_0_u10 u5c_1_u10 v9c_0_u10 v9c_1_u10
      have OX2 := Lib.hid oX2; clear oX2
      go_wp2_with fail
      refine (eqTankS_same _ _ _ _ _ _ _ _ (OX1.out.new ((((Ku7.out.trans Ku8.out).trans Kv9.out).trans Ku10.out).trans Ku11.out)).reads OX2.out.reads).mono ?_
      rintro e u12 ⟨rfl, n_u12⟩
      have b0_0_u12 : u12.cell? ⟨w.heap.size, 0, none⟩ = some (.int .i64 x1_0) := n_u12.cell b0_0_u11
      have b0_1_u12 : u12.cell? ⟨w.heap.size, 1, none⟩ = some (.int .i64 x1_1) := n_u12.cell b0_1_u11
      have u5c_0_u12 : u12.cell? ⟨Bu5, 0, none⟩ = some (.int .i64 ((wfM l0 x1_0 x1_1).1)) := n_u12.cell u5c_0_u11
      have u5c_1_u12 : u12.cell? ⟨Bu5, 1, none⟩ = some (.int .i64 ((wfM l0 x1_0 x1_1).2)) := n_u12.cell u5c_1_u11
      have v9c_0_u12 : u12.cell? ⟨u8.heap.size, 0, none⟩ = some (.int .i64 ((wfM l0 x1_0 x1_1).1)) := n_u12.cell v9c_0_u11
      have v9c_1_u12 : u12.cell? ⟨u8.heap.size, 1, none⟩ = some (.int .i64 ((wfM l0 x1_0 x1_1).2)) := n_u12.cell v9c_1_u11
      have Ku12 := Lib.hid n_u12; clear n_u12
      clear b0_0_u11 b0_1_u11 u5c_0_u11 u5c_1_u11 v9c_0_u11 v9c_1_u11
      go_wp2
      go_ret
      exact ⟨rfl, ((((((((Kz1.out.trans Ku5.out).trans Ku6.out).trans Ku7.out).trans Ku8.out).trans Kv9.out).trans Ku10.out).trans Ku11.out).trans Ku12.out)⟩
end Go.Proofs.Ytklfelbolblgfaa
