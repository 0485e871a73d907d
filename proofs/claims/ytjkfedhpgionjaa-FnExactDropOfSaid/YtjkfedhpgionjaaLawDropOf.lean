/- The law of DropOf: its walk. -/
import Derived.Test.YtjkfedhpgionjaaClkF
import Derived.Test.YtjkfedhpgionjaaClkL
import Derived.Deep.RegionHeld3
import Derived.Deep.DeepCutAuto
namespace Go.Proofs.Ytjkfedhpgionjaa
open Go.RowKit

set_option maxRecDepth 100000 in
set_option maxHeartbeats 20000000 in
theorem law_DropOf (w : World) (x0_0 : Int) (x0_1 : Int) :
    Calls Try.prog 4 #[.agg #[.int .i64 x0_0, .int .i64 x0_1]] w fun e w' => e = .returned (.bool true) ∧ New w w' := by
  go_enter Try.func4, Try.ntmps4
  go_upto_region 1 with fail
  obtain ⟨v0, hv0⟩ : ∃ v, v = (w.alloc (.cells #[.int .i64 x0_0, .int .i64 x0_1] 23)) := ⟨_, rfl⟩
  rw [← hv0]
  have b0_0_v0 : v0.cell? ⟨w.heap.size, 0, none⟩ = some (.int .i64 x0_0) := by rw [hv0]; simp [go_sem]
  have b0_1_v0 : v0.cell? ⟨w.heap.size, 1, none⟩ = some (.int .i64 x0_1) := by rw [hv0]; simp [go_sem]
  have K0 := Lib.hid (show New w v0 by rw [hv0]; exact (by repeat (first | with_reducible exact New.refl _ | with_reducible assumption | refine New.drewN ?_ _ | refine New.drew ?_ | refine New.alloc ?_ _ | refine New.setCell ?_ (by first | omega | (simp; omega) | (simp; done)) _ | (refine New.trans ?_ (by assumption)))))
  have zv0 : w.heap.size < v0.heap.size := by rw [hv0]; simp
  clear hv0
  go_wp2_with fail
  refine (toClock_one _ _ _).mono ?_
  rintro e u1 ⟨rfl, n_u1⟩
  have b0_0_u1 : u1.cell? ⟨w.heap.size, 0, none⟩ = some (.int .i64 x0_0) := n_u1.cell b0_0_v0
  have b0_1_u1 : u1.cell? ⟨w.heap.size, 1, none⟩ = some (.int .i64 x0_1) := n_u1.cell b0_1_v0
  have Ku1 := Lib.hid n_u1; clear n_u1
  clear b0_0_v0 b0_1_v0
  go_wp2_with fail
  refine (sDropOf_any _ _ _ ).mono ?_
  rintro e u2 ⟨rfl, n_u2⟩
  have b0_0_u2 : u2.cell? ⟨w.heap.size, 0, none⟩ = some (.int .i64 x0_0) := n_u2.cell b0_0_u1
  have b0_1_u2 : u2.cell? ⟨w.heap.size, 1, none⟩ = some (.int .i64 x0_1) := n_u2.cell b0_1_u1
  have Ku2 := Lib.hid n_u2; clear n_u2
  clear b0_0_u1 b0_1_u1
  go_wp2_with fail
  refine (toClock_one _ _ _).mono ?_
  rintro e u3 ⟨rfl, n_u3⟩
  have b0_0_u3 : u3.cell? ⟨w.heap.size, 0, none⟩ = some (.int .i64 x0_0) := n_u3.cell b0_0_u2
  have b0_1_u3 : u3.cell? ⟨w.heap.size, 1, none⟩ = some (.int .i64 x0_1) := n_u3.cell b0_1_u2
  have Ku3 := Lib.hid n_u3; clear n_u3
  clear b0_0_u2 b0_1_u2
  go_wp2_with fail
  refine (iDropOf_any _ _ _ ).mono ?_
  rintro e u4 ⟨rfl, n_u4⟩
  have b0_0_u4 : u4.cell? ⟨w.heap.size, 0, none⟩ = some (.int .i64 x0_0) := n_u4.cell b0_0_u3
  have b0_1_u4 : u4.cell? ⟨w.heap.size, 1, none⟩ = some (.int .i64 x0_1) := n_u4.cell b0_1_u3
  have Ku4 := Lib.hid n_u4; clear n_u4
  clear b0_0_u3 b0_1_u3
  go_wp2
  go_ret
  exact ⟨rfl, ((((K0.out.trans Ku1.out).trans Ku2.out).trans Ku3.out).trans Ku4.out)⟩
end Go.Proofs.Ytjkfedhpgionjaa
