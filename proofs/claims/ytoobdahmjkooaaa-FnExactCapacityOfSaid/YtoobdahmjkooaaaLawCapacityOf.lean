/- The law of CapacityOf: its walk. -/
import Derived.Test.YtoobdahmjkooaaaSipS
import Derived.Test.YtoobdahmjkooaaaSipI
import Derived.Deep.RegionHeld3
import Derived.Deep.DeepCutAuto
namespace Go.Proofs.Ytoobdahmjkooaaa
open Go.RowKit

set_option maxRecDepth 100000 in
set_option maxHeartbeats 4000000 in
theorem law_CapacityOf (w : World) (x0_0 : Int) (x0_1 : Int) (x0_2 : Int) (x0_3 : Int) :
    Calls Try.prog 16 #[.agg #[.int .i64 x0_0, .int .i64 x0_1, .int .i64 x0_2, .int .i64 x0_3]] w fun e w' => e = .returned (.bool true) ∧ New w w' := by
  go_enter Try.func16, Try.ntmps16
  go_upto_region 1 with fail
  obtain ⟨v0, hv0⟩ : ∃ v, v = (w.alloc (.cells #[.int .i64 x0_0, .int .i64 x0_1, .int .i64 x0_2, .int .i64 x0_3] 23)) := ⟨_, rfl⟩
  rw [← hv0]
  have a0_0_v0 : v0.cell? ⟨w.heap.size, 0, none⟩ = some (.int .i64 x0_0) := by rw [hv0]; simp [go_sem]
  have a0_1_v0 : v0.cell? ⟨w.heap.size, 1, none⟩ = some (.int .i64 x0_1) := by rw [hv0]; simp [go_sem]
  have a0_2_v0 : v0.cell? ⟨w.heap.size, 2, none⟩ = some (.int .i64 x0_2) := by rw [hv0]; simp [go_sem]
  have a0_3_v0 : v0.cell? ⟨w.heap.size, 3, none⟩ = some (.int .i64 x0_3) := by rw [hv0]; simp [go_sem]
  have N_v0 := Lib.hid (show New w v0 by rw [hv0]; exact (by repeat (first | with_reducible exact New.refl _ | with_reducible assumption | refine New.drewN ?_ _ | refine New.drew ?_ | refine New.alloc ?_ _ | refine New.setCell ?_ (by first | omega | (simp; omega) | (simp; done)) _ | (refine New.trans ?_ (by assumption)))))
  clear hv0
  go_wp2_with fail
  refine (toSiphon_any _ _ _ _ _).mono ?_
  rintro e s1w0 ⟨rfl, n_s1w0⟩
  have a0_0_s1w0 : s1w0.cell? ⟨w.heap.size, 0, none⟩ = some (.int .i64 x0_0) := n_s1w0.cell a0_0_v0
  have a0_1_s1w0 : s1w0.cell? ⟨w.heap.size, 1, none⟩ = some (.int .i64 x0_1) := n_s1w0.cell a0_1_v0
  have a0_2_s1w0 : s1w0.cell? ⟨w.heap.size, 2, none⟩ = some (.int .i64 x0_2) := n_s1w0.cell a0_2_v0
  have a0_3_s1w0 : s1w0.cell? ⟨w.heap.size, 3, none⟩ = some (.int .i64 x0_3) := n_s1w0.cell a0_3_v0
  have N_s1w0 := Lib.hid (N_v0.out.trans n_s1w0); clear n_s1w0 a0_0_v0 a0_1_v0 a0_2_v0 a0_3_v0
  go_wp2_with fail
  refine (sCapacityOf_any _ _ _ _ _).mono ?_
  rintro e s1w1 ⟨rfl, n_s1w1⟩
  have a0_0_s1w1 : s1w1.cell? ⟨w.heap.size, 0, none⟩ = some (.int .i64 x0_0) := n_s1w1.cell a0_0_s1w0
  have a0_1_s1w1 : s1w1.cell? ⟨w.heap.size, 1, none⟩ = some (.int .i64 x0_1) := n_s1w1.cell a0_1_s1w0
  have a0_2_s1w1 : s1w1.cell? ⟨w.heap.size, 2, none⟩ = some (.int .i64 x0_2) := n_s1w1.cell a0_2_s1w0
  have a0_3_s1w1 : s1w1.cell? ⟨w.heap.size, 3, none⟩ = some (.int .i64 x0_3) := n_s1w1.cell a0_3_s1w0
  have N_s1w1 := Lib.hid (N_s1w0.out.trans n_s1w1); clear n_s1w1 a0_0_s1w0 a0_1_s1w0 a0_2_s1w0 a0_3_s1w0
  go_wp2_with fail
  refine (toSiphon_any _ _ _ _ _).mono ?_
  rintro e i2w0 ⟨rfl, n_i2w0⟩
  have a0_0_i2w0 : i2w0.cell? ⟨w.heap.size, 0, none⟩ = some (.int .i64 x0_0) := n_i2w0.cell a0_0_s1w1
  have a0_1_i2w0 : i2w0.cell? ⟨w.heap.size, 1, none⟩ = some (.int .i64 x0_1) := n_i2w0.cell a0_1_s1w1
  have a0_2_i2w0 : i2w0.cell? ⟨w.heap.size, 2, none⟩ = some (.int .i64 x0_2) := n_i2w0.cell a0_2_s1w1
  have a0_3_i2w0 : i2w0.cell? ⟨w.heap.size, 3, none⟩ = some (.int .i64 x0_3) := n_i2w0.cell a0_3_s1w1
  have N_i2w0 := Lib.hid (N_s1w1.out.trans n_i2w0); clear n_i2w0 a0_0_s1w1 a0_1_s1w1 a0_2_s1w1 a0_3_s1w1
  go_wp2_with fail
  refine (iCapacityOf_any _ _ _ _ _).mono ?_
  rintro e i2w1 ⟨rfl, n_i2w1⟩
  have a0_0_i2w1 : i2w1.cell? ⟨w.heap.size, 0, none⟩ = some (.int .i64 x0_0) := n_i2w1.cell a0_0_i2w0
  have a0_1_i2w1 : i2w1.cell? ⟨w.heap.size, 1, none⟩ = some (.int .i64 x0_1) := n_i2w1.cell a0_1_i2w0
  have a0_2_i2w1 : i2w1.cell? ⟨w.heap.size, 2, none⟩ = some (.int .i64 x0_2) := n_i2w1.cell a0_2_i2w0
  have a0_3_i2w1 : i2w1.cell? ⟨w.heap.size, 3, none⟩ = some (.int .i64 x0_3) := n_i2w1.cell a0_3_i2w0
  have N_i2w1 := Lib.hid (N_i2w0.out.trans n_i2w1); clear n_i2w1 a0_0_i2w0 a0_1_i2w0 a0_2_i2w0 a0_3_i2w0
  go_wp2
  go_ret
  exact ⟨rfl, N_i2w1.out⟩
end Go.Proofs.Ytoobdahmjkooaaa
