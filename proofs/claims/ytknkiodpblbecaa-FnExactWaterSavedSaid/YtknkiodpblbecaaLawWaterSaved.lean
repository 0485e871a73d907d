/- The law of WaterSaved: its walk. -/
import Derived.Test.YtknkiodpblbecaaSv
import Derived.Test.YtknkiodpblbecaaCutB
import Derived.Test.YtknkiodpblbecaaRowRatio
import Derived.Deep.RegionHeld3
import Derived.Deep.DeepCutAuto
namespace Go.Proofs.Ytknkiodpblbecaa
open Go.RowKit

set_option maxRecDepth 100000 in
set_option maxHeartbeats 20000000 in
theorem law_WaterSaved (w : World) (x0 : Int) (x1 : Int) :
    Calls Try.prog 7 #[.int .i64 x0, .int .i64 x1] w fun e w' => e = .returned (.bool true) ∧ New w w' := by
  go_enter Try.func7, Try.ntmps7
  go_wp2_with fail
  refine (sWaterSaved_any _ _ _ ).mono ?_
  rintro e u1 ⟨rfl, n_u1⟩
  have Ku1 := Lib.hid n_u1; clear n_u1
  go_upto_region 2 with fail
  obtain ⟨v2, hv2⟩ : ∃ v, v = u1.alloc (.cells #[.int .i64 ((wsM x0 x1).1), .int .i64 ((wsM x0 x1).2)] 35) := ⟨_, rfl⟩
  rw [← hv2]
  have v2c_0_v2 : v2.cell? ⟨u1.heap.size, 0, none⟩ = some (.int .i64 ((wsM x0 x1).1)) := by rw [hv2]; simp [go_sem]
  have v2c_1_v2 : v2.cell? ⟨u1.heap.size, 1, none⟩ = some (.int .i64 ((wsM x0 x1).2)) := by rw [hv2]; simp [go_sem]
  have Kv2 := Lib.hid (show New u1 v2 by rw [hv2]; exact (by repeat (first | with_reducible exact New.refl _ | with_reducible assumption | refine New.drewN ?_ _ | refine New.drew ?_ | refine New.alloc ?_ _ | refine New.setCell ?_ (by first | omega | (simp; omega) | (simp; done)) _ | (refine New.trans ?_ (by assumption)))))
  clear hv2
  go_wp2_with fail
  refine (iWaterSaved_any _ _ _ ).mono ?_
  rintro e u3 ⟨rfl, n_u3⟩
  have v2c_0_u3 : u3.cell? ⟨u1.heap.size, 0, none⟩ = some (.int .i64 ((wsM x0 x1).1)) := n_u3.cell v2c_0_v2
  have v2c_1_u3 : u3.cell? ⟨u1.heap.size, 1, none⟩ = some (.int .i64 ((wsM x0 x1).2)) := n_u3.cell v2c_1_v2
  have Ku3 := Lib.hid n_u3; clear n_u3
  clear v2c_0_v2 v2c_1_v2
  go_upto_region 3 with fail
  obtain ⟨v4, hv4⟩ : ∃ v, v = u3.alloc (.cells #[.int .i64 ((wsM x0 x1).1), .int .i64 ((wsM x0 x1).2)] 35) := ⟨_, rfl⟩
  rw [← hv4]
  have v2c_0_v4 : v4.cell? ⟨u1.heap.size, 0, none⟩ = some (.int .i64 ((wsM x0 x1).1)) := by rw [hv4]; exact World.cell_kept v2c_0_u3
  have v2c_1_v4 : v4.cell? ⟨u1.heap.size, 1, none⟩ = some (.int .i64 ((wsM x0 x1).2)) := by rw [hv4]; exact World.cell_kept v2c_1_u3
  clear v2c_0_u3 v2c_1_u3
  have v4c_0_v4 : v4.cell? ⟨u3.heap.size, 0, none⟩ = some (.int .i64 ((wsM x0 x1).1)) := by rw [hv4]; simp [go_sem]
  have v4c_1_v4 : v4.cell? ⟨u3.heap.size, 1, none⟩ = some (.int .i64 ((wsM x0 x1).2)) := by rw [hv4]; simp [go_sem]
  have Kv4 := Lib.hid (show New u3 v4 by rw [hv4]; exact (by repeat (first | with_reducible exact New.refl _ | with_reducible assumption | refine New.drewN ?_ _ | refine New.drew ?_ | refine New.alloc ?_ _ | refine New.setCell ?_ (by first | omega | (simp; omega) | (simp; done)) _ | (refine New.trans ?_ (by assumption)))))
  clear hv4
  go_wp2_with fail
  refine (eqRatio_one _ _ _).mono ?_
  rintro e u5 ⟨rfl, n_u5⟩
  have v2c_0_u5 : u5.cell? ⟨u1.heap.size, 0, none⟩ = some (.int .i64 ((wsM x0 x1).1)) := n_u5.cell v2c_0_v4
  have v2c_1_u5 : u5.cell? ⟨u1.heap.size, 1, none⟩ = some (.int .i64 ((wsM x0 x1).2)) := n_u5.cell v2c_1_v4
  have v4c_0_u5 : u5.cell? ⟨u3.heap.size, 0, none⟩ = some (.int .i64 ((wsM x0 x1).1)) := n_u5.cell v4c_0_v4
  have v4c_1_u5 : u5.cell? ⟨u3.heap.size, 1, none⟩ = some (.int .i64 ((wsM x0 x1).2)) := n_u5.cell v4c_1_v4
  have Ku5 := Lib.hid n_u5; clear n_u5
  clear v2c_0_v4 v2c_1_v4 v4c_0_v4 v4c_1_v4
  go_wp2
  go_ret
  exact ⟨rfl, ((((Ku1.out.trans Kv2.out).trans Ku3.out).trans Kv4.out).trans Ku5.out)⟩
end Go.Proofs.Ytknkiodpblbecaa
