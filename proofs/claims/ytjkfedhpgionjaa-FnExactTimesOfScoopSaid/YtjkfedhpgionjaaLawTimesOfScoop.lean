/- The law of TimesOfScoop: its walk. -/
import Derived.Test.YtjkfedhpgionjaaTos
import Derived.Test.YtjkfedhpgionjaaClkL
import Derived.Deep.RegionHeld3
import Derived.Deep.DeepCutAuto
namespace Go.Proofs.Ytjkfedhpgionjaa
open Go.RowKit

set_option maxRecDepth 100000 in
set_option maxHeartbeats 20000000 in
theorem law_TimesOfScoop (w : World) (x0_0 : Int) (x0_1 : Int) (x0_2 : Int) (x1 : Int) (x2 : Int) (hR0 : (tosM x0_0 x0_1 x0_2 x1 x2).length ≤ 1048576) :
    Calls Try.prog 9 #[.agg #[.int .i64 x0_0, .int .i64 x0_1, .int .i64 x0_2], .int .i64 x1, .int .i64 x2] w fun e w' => e = .returned (.bool true) ∧ New w w' := by
  have LR0 := Lib.hid hR0; clear hR0
  go_enter Try.func9, Try.ntmps9
  go_upto_region 1 with fail
  obtain ⟨v0, hv0⟩ : ∃ v, v = (w.alloc (.cells #[.int .i64 x0_0, .int .i64 x0_1, .int .i64 x0_2] 33)) := ⟨_, rfl⟩
  rw [← hv0]
  have b0_0_v0 : v0.cell? ⟨w.heap.size, 0, none⟩ = some (.int .i64 x0_0) := by rw [hv0]; simp [go_sem]
  have b0_1_v0 : v0.cell? ⟨w.heap.size, 1, none⟩ = some (.int .i64 x0_1) := by rw [hv0]; simp [go_sem]
  have b0_2_v0 : v0.cell? ⟨w.heap.size, 2, none⟩ = some (.int .i64 x0_2) := by rw [hv0]; simp [go_sem]
  have K0 := Lib.hid (show New w v0 by rw [hv0]; exact (by repeat (first | with_reducible exact New.refl _ | with_reducible assumption | refine New.drewN ?_ _ | refine New.drew ?_ | refine New.alloc ?_ _ | refine New.setCell ?_ (by first | omega | (simp; omega) | (simp; done)) _ | (refine New.trans ?_ (by assumption)))))
  have zv0 : w.heap.size < v0.heap.size := by rw [hv0]; simp
  clear hv0
  go_wp2_with fail
  refine (toWheel_one _ _ _ _).mono ?_
  rintro e u1 ⟨rfl, n_u1⟩
  have b0_0_u1 : u1.cell? ⟨w.heap.size, 0, none⟩ = some (.int .i64 x0_0) := n_u1.cell b0_0_v0
  have b0_1_u1 : u1.cell? ⟨w.heap.size, 1, none⟩ = some (.int .i64 x0_1) := n_u1.cell b0_1_v0
  have b0_2_u1 : u1.cell? ⟨w.heap.size, 2, none⟩ = some (.int .i64 x0_2) := n_u1.cell b0_2_v0
  have Ku1 := Lib.hid n_u1; clear n_u1
  clear b0_0_v0 b0_1_v0 b0_2_v0
  go_wp2_with fail
  refine (sTimesOfScoop_any _ _ _ _ _ _ ).mono ?_
  rintro e u2 ⟨p0a, p0n, p0c, rfl, op0, n_u2⟩
  have b0_0_u2 : u2.cell? ⟨w.heap.size, 0, none⟩ = some (.int .i64 x0_0) := n_u2.cell b0_0_u1
  have b0_1_u2 : u2.cell? ⟨w.heap.size, 1, none⟩ = some (.int .i64 x0_1) := n_u2.cell b0_1_u1
  have b0_2_u2 : u2.cell? ⟨w.heap.size, 2, none⟩ = some (.int .i64 x0_2) := n_u2.cell b0_2_u1
  have Ku2 := Lib.hid n_u2; clear n_u2
  clear b0_0_u1 b0_1_u1 b0_2_u1
  have Op0 := Lib.hid op0; clear op0
  go_wp2_with fail
  refine (toWheel_one _ _ _ _).mono ?_
  rintro e u3 ⟨rfl, n_u3⟩
  have b0_0_u3 : u3.cell? ⟨w.heap.size, 0, none⟩ = some (.int .i64 x0_0) := n_u3.cell b0_0_u2
  have b0_1_u3 : u3.cell? ⟨w.heap.size, 1, none⟩ = some (.int .i64 x0_1) := n_u3.cell b0_1_u2
  have b0_2_u3 : u3.cell? ⟨w.heap.size, 2, none⟩ = some (.int .i64 x0_2) := n_u3.cell b0_2_u2
  have Ku3 := Lib.hid n_u3; clear n_u3
  clear b0_0_u2 b0_1_u2 b0_2_u2
  go_wp2_with fail
  refine (iTimesOfScoop_any _ _ _ _ _ _ ).mono ?_
  rintro e u4 ⟨g0a, g0n, g0c, rfl, og0, n_u4⟩
  have b0_0_u4 : u4.cell? ⟨w.heap.size, 0, none⟩ = some (.int .i64 x0_0) := n_u4.cell b0_0_u3
  have b0_1_u4 : u4.cell? ⟨w.heap.size, 1, none⟩ = some (.int .i64 x0_1) := n_u4.cell b0_1_u3
  have b0_2_u4 : u4.cell? ⟨w.heap.size, 2, none⟩ = some (.int .i64 x0_2) := n_u4.cell b0_2_u3
  have Ku4 := Lib.hid n_u4; clear n_u4
  clear b0_0_u3 b0_1_u3 b0_2_u3
  have Og0 := Lib.hid og0; clear og0
  go_wp2_with fail
  refine (eqIntS_same _ _ _ _ _ _ _ _ Og0.out.ints (Op0.out.new (Ku3.out.trans Ku4.out)).ints).mono ?_
  rintro e u5 ⟨rfl, n_u5⟩
  have b0_0_u5 : u5.cell? ⟨w.heap.size, 0, none⟩ = some (.int .i64 x0_0) := n_u5.cell b0_0_u4
  have b0_1_u5 : u5.cell? ⟨w.heap.size, 1, none⟩ = some (.int .i64 x0_1) := n_u5.cell b0_1_u4
  have b0_2_u5 : u5.cell? ⟨w.heap.size, 2, none⟩ = some (.int .i64 x0_2) := n_u5.cell b0_2_u4
  have Ku5 := Lib.hid n_u5; clear n_u5
  clear b0_0_u4 b0_1_u4 b0_2_u4
  go_wp2_with fail
  have yu6 : g0n ≤ 1048576 := by have q1 := Og0.out.1; have q2 := LR0.out; omega
  refine (markIntS_any _ u3.heap.size u4.heap.size _ _ _ _ _ (Og0.out.new Ku5.out) (by omega) (by omega)).mono ?_
  rintro e u6 ⟨rfl, mu6, ku6⟩
  have b0_0_u6 : u6.cell? ⟨w.heap.size, 0, none⟩ = some (.int .i64 x0_0) := ku6.cell b0_0_u5 (fun h => by have s0 := K0.out.size; have s1 := Ku1.out.size; have s2 := Ku2.out.size; have s3 := Ku3.out.size; have s4 := Ku4.out.size; have s5 := Ku5.out.size; skip; have bb := ((Og0.out.new Ku5.out)).bounds h.1 h.2; (try simp only at bb); omega)
  have b0_1_u6 : u6.cell? ⟨w.heap.size, 1, none⟩ = some (.int .i64 x0_1) := ku6.cell b0_1_u5 (fun h => by have s0 := K0.out.size; have s1 := Ku1.out.size; have s2 := Ku2.out.size; have s3 := Ku3.out.size; have s4 := Ku4.out.size; have s5 := Ku5.out.size; skip; have bb := ((Og0.out.new Ku5.out)).bounds h.1 h.2; (try simp only at bb); omega)
  have b0_2_u6 : u6.cell? ⟨w.heap.size, 2, none⟩ = some (.int .i64 x0_2) := ku6.cell b0_2_u5 (fun h => by have s0 := K0.out.size; have s1 := Ku1.out.size; have s2 := Ku2.out.size; have s3 := Ku3.out.size; have s4 := Ku4.out.size; have s5 := Ku5.out.size; skip; have bb := ((Og0.out.new Ku5.out)).bounds h.1 h.2; (try simp only at bb); omega)
  have Ku6 := Lib.hid ku6; clear ku6
  have Op0_u6 := Lib.hid ((Op0.out.new ((Ku3.out.trans Ku4.out).trans Ku5.out)).chg Ku6.out (fun b h1 h2 h => by have s0 := K0.out.size; have s1 := Ku1.out.size; have s2 := Ku2.out.size; have s3 := Ku3.out.size; have s4 := Ku4.out.size; have s5 := Ku5.out.size; skip; have bb := ((Og0.out.new Ku5.out)).bounds h.1 h.2; omega))
  have Mu6 := Lib.hid mu6; clear mu6
  clear b0_0_u5 b0_1_u5 b0_2_u5
  have eu6 : ¬ 1 + (g0n : Int) < 0 := by omega
  go_wp2_with fail
  refine (heldIntS_new _ _ _ _ _ Mu6.out.ints (by omega) (by omega)).mono ?_
  rintro e u7 ⟨rfl, n_u7⟩
  have b0_0_u7 : u7.cell? ⟨w.heap.size, 0, none⟩ = some (.int .i64 x0_0) := n_u7.cell b0_0_u6
  have b0_1_u7 : u7.cell? ⟨w.heap.size, 1, none⟩ = some (.int .i64 x0_1) := n_u7.cell b0_1_u6
  have b0_2_u7 : u7.cell? ⟨w.heap.size, 2, none⟩ = some (.int .i64 x0_2) := n_u7.cell b0_2_u6
  have Ku7 := Lib.hid n_u7; clear n_u7
  clear b0_0_u6 b0_1_u6 b0_2_u6
  go_wp2_with fail
  refine (toWheel_one _ _ _ _).mono ?_
  rintro e u8 ⟨rfl, n_u8⟩
  have b0_0_u8 : u8.cell? ⟨w.heap.size, 0, none⟩ = some (.int .i64 x0_0) := n_u8.cell b0_0_u7
  have b0_1_u8 : u8.cell? ⟨w.heap.size, 1, none⟩ = some (.int .i64 x0_1) := n_u8.cell b0_1_u7
  have b0_2_u8 : u8.cell? ⟨w.heap.size, 2, none⟩ = some (.int .i64 x0_2) := n_u8.cell b0_2_u7
  have Ku8 := Lib.hid n_u8; clear n_u8
  clear b0_0_u7 b0_1_u7 b0_2_u7
  go_wp2_with fail
  refine (iTimesOfScoop_any _ _ _ _ _ _ ).mono ?_
  rintro e u9 ⟨f0a, f0n, f0c, rfl, of0, n_u9⟩
  have b0_0_u9 : u9.cell? ⟨w.heap.size, 0, none⟩ = some (.int .i64 x0_0) := n_u9.cell b0_0_u8
  have b0_1_u9 : u9.cell? ⟨w.heap.size, 1, none⟩ = some (.int .i64 x0_1) := n_u9.cell b0_1_u8
  have b0_2_u9 : u9.cell? ⟨w.heap.size, 2, none⟩ = some (.int .i64 x0_2) := n_u9.cell b0_2_u8
  have Ku9 := Lib.hid n_u9; clear n_u9
  clear b0_0_u8 b0_1_u8 b0_2_u8
  have Of0 := Lib.hid of0; clear of0
  go_wp2_with fail
  refine (eqIntS_same _ _ _ _ _ _ _ _ Of0.out.ints (Op0_u6.out.new ((Ku7.out.trans Ku8.out).trans Ku9.out)).ints).mono ?_
  rintro e u10 ⟨rfl, n_u10⟩
  have b0_0_u10 : u10.cell? ⟨w.heap.size, 0, none⟩ = some (.int .i64 x0_0) := n_u10.cell b0_0_u9
  have b0_1_u10 : u10.cell? ⟨w.heap.size, 1, none⟩ = some (.int .i64 x0_1) := n_u10.cell b0_1_u9
  have b0_2_u10 : u10.cell? ⟨w.heap.size, 2, none⟩ = some (.int .i64 x0_2) := n_u10.cell b0_2_u9
  have Ku10 := Lib.hid n_u10; clear n_u10
  clear b0_0_u9 b0_1_u9 b0_2_u9
  go_wp2_with fail
  refine (heldIntS_new _ _ _ _ _ (Mu6.out.new (((Ku7.out.trans Ku8.out).trans Ku9.out).trans Ku10.out)).ints (by omega) (by omega)).mono ?_
  rintro e u11 ⟨rfl, n_u11⟩
  have b0_0_u11 : u11.cell? ⟨w.heap.size, 0, none⟩ = some (.int .i64 x0_0) := n_u11.cell b0_0_u10
  have b0_1_u11 : u11.cell? ⟨w.heap.size, 1, none⟩ = some (.int .i64 x0_1) := n_u11.cell b0_1_u10
  have b0_2_u11 : u11.cell? ⟨w.heap.size, 2, none⟩ = some (.int .i64 x0_2) := n_u11.cell b0_2_u10
  have Ku11 := Lib.hid n_u11; clear n_u11
  clear b0_0_u10 b0_1_u10 b0_2_u10
  go_wp2
  go_ret
  exact ⟨rfl, ((((((Chg.new (((((K0.out.trans Ku1.out).trans Ku2.out).trans Ku3.out).trans Ku4.out).trans Ku5.out) Ku6.out (fun i hi => by have s0 := K0.out.size; have s1 := Ku1.out.size; have s2 := Ku2.out.size; have s3 := Ku3.out.size; have s4 := Ku4.out.size; have s5 := Ku5.out.size; skip; have bb := ((Og0.out.new Ku5.out)).bounds hi.1 hi.2; omega)).trans Ku7.out).trans Ku8.out).trans Ku9.out).trans Ku10.out).trans Ku11.out)⟩
end Go.Proofs.Ytjkfedhpgionjaa
