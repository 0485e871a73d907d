/- The law of LevelOf: its walk. -/
import Derived.Test.YtklfelbolblgfaaSm
import Derived.Test.YtklfelbolblgfaaRowRatio
import Derived.Test.YtklfelbolblgfaaOpenTR
import Derived.Deep.RegionHeld3
import Derived.Deep.DeepCutAuto
namespace Go.Proofs.Ytklfelbolblgfaa
open Go.RowKit

set_option maxRecDepth 100000 in
set_option maxHeartbeats 20000000 in
theorem law_LevelOf (w : World) (x0_0 : Int) (x0_1 : Int) (x0_2 : Int) :
    Calls Try.prog 4 #[.agg #[.int .i64 x0_0, .int .i64 x0_1, .int .i64 x0_2]] w fun e w' => e = .returned (.bool true) ∧ New w w' := by
  go_enter Try.func4, Try.ntmps4
  go_upto_region 1 with fail
  obtain ⟨v0, hv0⟩ : ∃ v, v = (w.alloc (.cells #[.int .i64 x0_0, .int .i64 x0_1, .int .i64 x0_2] 23)) := ⟨_, rfl⟩
  rw [← hv0]
  have b0_0_v0 : v0.cell? ⟨w.heap.size, 0, none⟩ = some (.int .i64 x0_0) := by rw [hv0]; simp [go_sem]
  have b0_1_v0 : v0.cell? ⟨w.heap.size, 1, none⟩ = some (.int .i64 x0_1) := by rw [hv0]; simp [go_sem]
  have b0_2_v0 : v0.cell? ⟨w.heap.size, 2, none⟩ = some (.int .i64 x0_2) := by rw [hv0]; simp [go_sem]
  have K0 := Lib.hid (show New w v0 by rw [hv0]; exact (by repeat (first | with_reducible exact New.refl _ | with_reducible assumption | refine New.drewN ?_ _ | refine New.drew ?_ | refine New.alloc ?_ _ | refine New.setCell ?_ (by first | omega | (simp; omega) | (simp; done)) _ | (refine New.trans ?_ (by assumption)))))
  have zv0 : w.heap.size < v0.heap.size := by rw [hv0]; simp
  clear hv0
  go_wp2_with fail
  refine (toTank_one _ _ _ _).mono ?_
  rintro e u1 ⟨rfl, n_u1⟩
  have b0_0_u1 : u1.cell? ⟨w.heap.size, 0, none⟩ = some (.int .i64 x0_0) := n_u1.cell b0_0_v0
  have b0_1_u1 : u1.cell? ⟨w.heap.size, 1, none⟩ = some (.int .i64 x0_1) := n_u1.cell b0_1_v0
  have b0_2_u1 : u1.cell? ⟨w.heap.size, 2, none⟩ = some (.int .i64 x0_2) := n_u1.cell b0_2_v0
  have Ku1 := Lib.hid n_u1; clear n_u1
  clear b0_0_v0 b0_1_v0 b0_2_v0
  go_wp2_with fail
  refine (sLevelOf_any _ _ _ _ ).mono ?_
  rintro e u2 ⟨rfl, n_u2⟩
  have b0_0_u2 : u2.cell? ⟨w.heap.size, 0, none⟩ = some (.int .i64 x0_0) := n_u2.cell b0_0_u1
  have b0_1_u2 : u2.cell? ⟨w.heap.size, 1, none⟩ = some (.int .i64 x0_1) := n_u2.cell b0_1_u1
  have b0_2_u2 : u2.cell? ⟨w.heap.size, 2, none⟩ = some (.int .i64 x0_2) := n_u2.cell b0_2_u1
  have Ku2 := Lib.hid n_u2; clear n_u2
  clear b0_0_u1 b0_1_u1 b0_2_u1
  go_upto_region 2 with fail
  obtain ⟨v3, hv3⟩ : ∃ v, v = u2.alloc (.cells #[.int .i64 ((loM (x0_0, x0_1, x0_2)).1), .int .i64 ((loM (x0_0, x0_1, x0_2)).2)] 29) := ⟨_, rfl⟩
  rw [← hv3]
  have b0_0_v3 : v3.cell? ⟨w.heap.size, 0, none⟩ = some (.int .i64 x0_0) := by rw [hv3]; exact World.cell_kept b0_0_u2
  have b0_1_v3 : v3.cell? ⟨w.heap.size, 1, none⟩ = some (.int .i64 x0_1) := by rw [hv3]; exact World.cell_kept b0_1_u2
  have b0_2_v3 : v3.cell? ⟨w.heap.size, 2, none⟩ = some (.int .i64 x0_2) := by rw [hv3]; exact World.cell_kept b0_2_u2
  clear b0_0_u2 b0_1_u2 b0_2_u2
  have v3c_0_v3 : v3.cell? ⟨u2.heap.size, 0, none⟩ = some (.int .i64 ((loM (x0_0, x0_1, x0_2)).1)) := by rw [hv3]; simp [go_sem]
  have v3c_1_v3 : v3.cell? ⟨u2.heap.size, 1, none⟩ = some (.int .i64 ((loM (x0_0, x0_1, x0_2)).2)) := by rw [hv3]; simp [go_sem]
  have Kv3 := Lib.hid (show New u2 v3 by rw [hv3]; exact (by repeat (first | with_reducible exact New.refl _ | with_reducible assumption | refine New.drewN ?_ _ | refine New.drew ?_ | refine New.alloc ?_ _ | refine New.setCell ?_ (by first | omega | (simp; omega) | (simp; done)) _ | (refine New.trans ?_ (by assumption)))))
  clear hv3
  go_wp2_with fail
  refine (toTank_one _ _ _ _).mono ?_
  rintro e u4 ⟨rfl, n_u4⟩
  have b0_0_u4 : u4.cell? ⟨w.heap.size, 0, none⟩ = some (.int .i64 x0_0) := n_u4.cell b0_0_v3
  have b0_1_u4 : u4.cell? ⟨w.heap.size, 1, none⟩ = some (.int .i64 x0_1) := n_u4.cell b0_1_v3
  have b0_2_u4 : u4.cell? ⟨w.heap.size, 2, none⟩ = some (.int .i64 x0_2) := n_u4.cell b0_2_v3
  have v3c_0_u4 : u4.cell? ⟨u2.heap.size, 0, none⟩ = some (.int .i64 ((loM (x0_0, x0_1, x0_2)).1)) := n_u4.cell v3c_0_v3
  have v3c_1_u4 : u4.cell? ⟨u2.heap.size, 1, none⟩ = some (.int .i64 ((loM (x0_0, x0_1, x0_2)).2)) := n_u4.cell v3c_1_v3
  have Ku4 := Lib.hid n_u4; clear n_u4
  clear b0_0_v3 b0_1_v3 b0_2_v3 v3c_0_v3 v3c_1_v3
  go_wp2_with fail
  refine (iLevelOf_any _ _ _ _ ).mono ?_
  rintro e u5 ⟨rfl, n_u5⟩
  have b0_0_u5 : u5.cell? ⟨w.heap.size, 0, none⟩ = some (.int .i64 x0_0) := n_u5.cell b0_0_u4
  have b0_1_u5 : u5.cell? ⟨w.heap.size, 1, none⟩ = some (.int .i64 x0_1) := n_u5.cell b0_1_u4
  have b0_2_u5 : u5.cell? ⟨w.heap.size, 2, none⟩ = some (.int .i64 x0_2) := n_u5.cell b0_2_u4
  have v3c_0_u5 : u5.cell? ⟨u2.heap.size, 0, none⟩ = some (.int .i64 ((loM (x0_0, x0_1, x0_2)).1)) := n_u5.cell v3c_0_u4
  have v3c_1_u5 : u5.cell? ⟨u2.heap.size, 1, none⟩ = some (.int .i64 ((loM (x0_0, x0_1, x0_2)).2)) := n_u5.cell v3c_1_u4
  have Ku5 := Lib.hid n_u5; clear n_u5
  clear b0_0_u4 b0_1_u4 b0_2_u4 v3c_0_u4 v3c_1_u4
  go_upto_region 3 with fail
  obtain ⟨v6, hv6⟩ : ∃ v, v = u5.alloc (.cells #[.int .i64 ((loM (x0_0, x0_1, x0_2)).1), .int .i64 ((loM (x0_0, x0_1, x0_2)).2)] 29) := ⟨_, rfl⟩
  rw [← hv6]
  have b0_0_v6 : v6.cell? ⟨w.heap.size, 0, none⟩ = some (.int .i64 x0_0) := by rw [hv6]; exact World.cell_kept b0_0_u5
  have b0_1_v6 : v6.cell? ⟨w.heap.size, 1, none⟩ = some (.int .i64 x0_1) := by rw [hv6]; exact World.cell_kept b0_1_u5
  have b0_2_v6 : v6.cell? ⟨w.heap.size, 2, none⟩ = some (.int .i64 x0_2) := by rw [hv6]; exact World.cell_kept b0_2_u5
  have v3c_0_v6 : v6.cell? ⟨u2.heap.size, 0, none⟩ = some (.int .i64 ((loM (x0_0, x0_1, x0_2)).1)) := by rw [hv6]; exact World.cell_kept v3c_0_u5
  have v3c_1_v6 : v6.cell? ⟨u2.heap.size, 1, none⟩ = some (.int .i64 ((loM (x0_0, x0_1, x0_2)).2)) := by rw [hv6]; exact World.cell_kept v3c_1_u5
  clear b0_0_u5 b0_1_u5 b0_2_u5 v3c_0_u5 v3c_1_u5
  have v6c_0_v6 : v6.cell? ⟨u5.heap.size, 0, none⟩ = some (.int .i64 ((loM (x0_0, x0_1, x0_2)).1)) := by rw [hv6]; simp [go_sem]
  have v6c_1_v6 : v6.cell? ⟨u5.heap.size, 1, none⟩ = some (.int .i64 ((loM (x0_0, x0_1, x0_2)).2)) := by rw [hv6]; simp [go_sem]
  have Kv6 := Lib.hid (show New u5 v6 by rw [hv6]; exact (by repeat (first | with_reducible exact New.refl _ | with_reducible assumption | refine New.drewN ?_ _ | refine New.drew ?_ | refine New.alloc ?_ _ | refine New.setCell ?_ (by first | omega | (simp; omega) | (simp; done)) _ | (refine New.trans ?_ (by assumption)))))
  clear hv6
  go_wp2_with fail
  refine (eqRatio_one _ _ _).mono ?_
  rintro e u7 ⟨rfl, n_u7⟩
  have b0_0_u7 : u7.cell? ⟨w.heap.size, 0, none⟩ = some (.int .i64 x0_0) := n_u7.cell b0_0_v6
  have b0_1_u7 : u7.cell? ⟨w.heap.size, 1, none⟩ = some (.int .i64 x0_1) := n_u7.cell b0_1_v6
  have b0_2_u7 : u7.cell? ⟨w.heap.size, 2, none⟩ = some (.int .i64 x0_2) := n_u7.cell b0_2_v6
  have v3c_0_u7 : u7.cell? ⟨u2.heap.size, 0, none⟩ = some (.int .i64 ((loM (x0_0, x0_1, x0_2)).1)) := n_u7.cell v3c_0_v6
  have v3c_1_u7 : u7.cell? ⟨u2.heap.size, 1, none⟩ = some (.int .i64 ((loM (x0_0, x0_1, x0_2)).2)) := n_u7.cell v3c_1_v6
  have v6c_0_u7 : u7.cell? ⟨u5.heap.size, 0, none⟩ = some (.int .i64 ((loM (x0_0, x0_1, x0_2)).1)) := n_u7.cell v6c_0_v6
  have v6c_1_u7 : u7.cell? ⟨u5.heap.size, 1, none⟩ = some (.int .i64 ((loM (x0_0, x0_1, x0_2)).2)) := n_u7.cell v6c_1_v6
  have Ku7 := Lib.hid n_u7; clear n_u7
  clear b0_0_v6 b0_1_v6 b0_2_v6 v3c_0_v6 v3c_1_v6 v6c_0_v6 v6c_1_v6
  go_wp2
  go_ret
  exact ⟨rfl, (((((((K0.out.trans Ku1.out).trans Ku2.out).trans Kv3.out).trans Ku4.out).trans Ku5.out).trans Kv6.out).trans Ku7.out)⟩
end Go.Proofs.Ytklfelbolblgfaa
