/- The law of CommonLevel: its walk. -/
import Derived.Test.YtkhniokfpmhonaaLvF
import Derived.Test.YtkhniokfpmhonaaRowRatio
import Derived.Test.YtkhniokfpmhonaaRowOpenTank
import Derived.Deep.RegionHeld3
import Derived.Deep.DeepCutAuto
namespace Go.Proofs.Ytkhniokfpmhonaa
open Go.RowKit

set_option maxRecDepth 100000 in
set_option maxHeartbeats 20000000 in
theorem law_CommonLevel (w : World) (a0 : Option Addr) (n0 c0 : Nat) (l0 : List (Int × Int × Int)) (h0 : Tanks w a0 n0 c0 l0) :
    Calls Try.prog 3 #[.slice a0 n0 c0] w fun e w' => e = .returned (.bool true) ∧ New w w' := by
  have HA0 := Lib.hid h0; clear h0
  have qA0 := HA0.out.2.2.1
  go_enter Try.func3, Try.ntmps3
  go_wp2_with fail
  refine (szTankS_any _ _ _ _ _ qA0 (by omega) (by omega)).mono ?_
  rintro e z1 ⟨rz1, rfl, g1z1, g2z1, g3z1, n_z1⟩
  have Gz1 := Lib.hid g3z1; clear g3z1
  have Kz1 := Lib.hid (show New w z1 from New.trans (by repeat (first | with_reducible exact New.refl _ | with_reducible assumption | refine New.drewN ?_ _ | refine New.drew ?_ | refine New.alloc ?_ _ | refine New.setCell ?_ (by first | omega | (simp; omega) | (simp; done)) _ | (refine New.trans ?_ (by assumption)))) n_z1); clear n_z1
  by_cases hrz1 : rz1 < 0
  · go_wp2
    go_ret
    exact ⟨rfl, Kz1.out⟩
  · have hn0 : n0 ≤ 1048576 := by have := (Gz1.out (by omega)).1; omega
    go_wp2_with fail
    refine (toTankS_any _ _ _ _ _ (HA0.out.new Kz1.out) hn0).mono ?_
    rintro e u2 ⟨x0a, x0c, rfl, oX0, n_u2⟩
    have Ku2 := Lib.hid n_u2; clear n_u2
    have OX0 := Lib.hid oX0; clear oX0
    go_wp2_with fail
    refine (sCommonLevel_any _ _ _ _ _ OX0.out.reads).mono ?_
    rintro e u3 ⟨rfl, n_u3⟩
    have Ku3 := Lib.hid n_u3; clear n_u3
    go_upto_region 6 with fail
    obtain ⟨v4, hv4⟩ : ∃ v, v = u3.alloc (.cells #[.int .i64 ((clM l0).1), .int .i64 ((clM l0).2)] 25) := ⟨_, rfl⟩
    rw [← hv4]
    have v4c_0_v4 : v4.cell? ⟨u3.heap.size, 0, none⟩ = some (.int .i64 ((clM l0).1)) := by rw [hv4]; simp [go_sem]
    have v4c_1_v4 : v4.cell? ⟨u3.heap.size, 1, none⟩ = some (.int .i64 ((clM l0).2)) := by rw [hv4]; simp [go_sem]
    have Kv4 := Lib.hid (show New u3 v4 by rw [hv4]; exact (by repeat (first | with_reducible exact New.refl _ | with_reducible assumption | refine New.drewN ?_ _ | refine New.drew ?_ | refine New.alloc ?_ _ | refine New.setCell ?_ (by first | omega | (simp; omega) | (simp; done)) _ | (refine New.trans ?_ (by assumption)))))
    clear hv4
    go_wp2_with fail
    refine (toTankS_any _ _ _ _ _ (HA0.out.new (((Kz1.out.trans Ku2.out).trans Ku3.out).trans Kv4.out)) hn0).mono ?_
    rintro e u5 ⟨x1a, x1c, rfl, oX1, n_u5⟩
    have v4c_0_u5 : u5.cell? ⟨u3.heap.size, 0, none⟩ = some (.int .i64 ((clM l0).1)) := n_u5.cell v4c_0_v4
    have v4c_1_u5 : u5.cell? ⟨u3.heap.size, 1, none⟩ = some (.int .i64 ((clM l0).2)) := n_u5.cell v4c_1_v4
    have Ku5 := Lib.hid n_u5; clear n_u5
    clear v4c_0_v4 v4c_1_v4
    have OX1 := Lib.hid oX1; clear oX1
    go_wp2_with fail
    refine (iCommonLevel_any _ _ _ _ _ OX1.out.reads).mono ?_
    rintro e u6 ⟨rfl, n_u6⟩
    have v4c_0_u6 : u6.cell? ⟨u3.heap.size, 0, none⟩ = some (.int .i64 ((clM l0).1)) := n_u6.cell v4c_0_u5
    have v4c_1_u6 : u6.cell? ⟨u3.heap.size, 1, none⟩ = some (.int .i64 ((clM l0).2)) := n_u6.cell v4c_1_u5
    have Ku6 := Lib.hid n_u6; clear n_u6
    clear v4c_0_u5 v4c_1_u5
    go_upto_region 8 with fail
    obtain ⟨v7, hv7⟩ : ∃ v, v = u6.alloc (.cells #[.int .i64 ((clM l0).1), .int .i64 ((clM l0).2)] 25) := ⟨_, rfl⟩
    rw [← hv7]
    have v4c_0_v7 : v7.cell? ⟨u3.heap.size, 0, none⟩ = some (.int .i64 ((clM l0).1)) := by rw [hv7]; exact World.cell_kept v4c_0_u6
    have v4c_1_v7 : v7.cell? ⟨u3.heap.size, 1, none⟩ = some (.int .i64 ((clM l0).2)) := by rw [hv7]; exact World.cell_kept v4c_1_u6
    clear v4c_0_u6 v4c_1_u6
    have v7c_0_v7 : v7.cell? ⟨u6.heap.size, 0, none⟩ = some (.int .i64 ((clM l0).1)) := by rw [hv7]; simp [go_sem]
    have v7c_1_v7 : v7.cell? ⟨u6.heap.size, 1, none⟩ = some (.int .i64 ((clM l0).2)) := by rw [hv7]; simp [go_sem]
    have Kv7 := Lib.hid (show New u6 v7 by rw [hv7]; exact (by repeat (first | with_reducible exact New.refl _ | with_reducible assumption | refine New.drewN ?_ _ | refine New.drew ?_ | refine New.alloc ?_ _ | refine New.setCell ?_ (by first | omega | (simp; omega) | (simp; done)) _ | (refine New.trans ?_ (by assumption)))))
    clear hv7
    go_wp2_with fail
    refine (eqRatio_one _ _ _).mono ?_
    rintro e u8 ⟨rfl, n_u8⟩
    have v4c_0_u8 : u8.cell? ⟨u3.heap.size, 0, none⟩ = some (.int .i64 ((clM l0).1)) := n_u8.cell v4c_0_v7
    have v4c_1_u8 : u8.cell? ⟨u3.heap.size, 1, none⟩ = some (.int .i64 ((clM l0).2)) := n_u8.cell v4c_1_v7
    have v7c_0_u8 : u8.cell? ⟨u6.heap.size, 0, none⟩ = some (.int .i64 ((clM l0).1)) := n_u8.cell v7c_0_v7
    have v7c_1_u8 : u8.cell? ⟨u6.heap.size, 1, none⟩ = some (.int .i64 ((clM l0).2)) := n_u8.cell v7c_1_v7
    have Ku8 := Lib.hid n_u8; clear n_u8
    clear v4c_0_v7 v4c_1_v7 v7c_0_v7 v7c_1_v7
    go_wp2_with fail
    refine (toTankS_any _ _ _ _ _ (HA0.out.new (((((((Kz1.out.trans Ku2.out).trans Ku3.out).trans Kv4.out).trans Ku5.out).trans Ku6.out).trans Kv7.out).trans Ku8.out)) hn0).mono ?_
    rintro e u9 ⟨x2a, x2c, rfl, oX2, n_u9⟩
    have v4c_0_u9 : u9.cell? ⟨u3.heap.size, 0, none⟩ = some (.int .i64 ((clM l0).1)) := n_u9.cell v4c_0_u8
    have v4c_1_u9 : u9.cell? ⟨u3.heap.size, 1, none⟩ = some (.int .i64 ((clM l0).2)) := n_u9.cell v4c_1_u8
    have v7c_0_u9 : u9.cell? ⟨u6.heap.size, 0, none⟩ = some (.int .i64 ((clM l0).1)) := n_u9.cell v7c_0_u8
    have v7c_1_u9 : u9.cell? ⟨u6.heap.size, 1, none⟩ = some (.int .i64 ((clM l0).2)) := n_u9.cell v7c_1_u8
    have Ku9 := Lib.hid n_u9; clear n_u9
    clear v4c_0_u8 v4c_1_u8 v7c_0_u8 v7c_1_u8
    have OX2 := Lib.hid oX2; clear oX2
    go_wp2_with fail
    refine (eqTankS_same _ _ _ _ _ _ _ _ (OX1.out.new (((Ku6.out.trans Kv7.out).trans Ku8.out).trans Ku9.out)).reads OX2.out.reads).mono ?_
    rintro e u10 ⟨rfl, n_u10⟩
    have v4c_0_u10 : u10.cell? ⟨u3.heap.size, 0, none⟩ = some (.int .i64 ((clM l0).1)) := n_u10.cell v4c_0_u9
    have v4c_1_u10 : u10.cell? ⟨u3.heap.size, 1, none⟩ = some (.int .i64 ((clM l0).2)) := n_u10.cell v4c_1_u9
    have v7c_0_u10 : u10.cell? ⟨u6.heap.size, 0, none⟩ = some (.int .i64 ((clM l0).1)) := n_u10.cell v7c_0_u9
    have v7c_1_u10 : u10.cell? ⟨u6.heap.size, 1, none⟩ = some (.int .i64 ((clM l0).2)) := n_u10.cell v7c_1_u9
    have Ku10 := Lib.hid n_u10; clear n_u10
    clear v4c_0_u9 v4c_1_u9 v7c_0_u9 v7c_1_u9
    go_wp2
    go_ret
    exact ⟨rfl, (((((((((Kz1.out.trans Ku2.out).trans Ku3.out).trans Kv4.out).trans Ku5.out).trans Ku6.out).trans Kv7.out).trans Ku8.out).trans Ku9.out).trans Ku10.out)⟩
end Go.Proofs.Ytkhniokfpmhonaa
