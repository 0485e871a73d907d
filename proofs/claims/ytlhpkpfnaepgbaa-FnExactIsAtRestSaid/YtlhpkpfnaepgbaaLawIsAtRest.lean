/- The law of IsAtRest: its walk. -/
import Derived.Test.YtlhpkpfnaepgbaaRsi
import Derived.Test.YtlhpkpfnaepgbaaAll
import Derived.Test.YtlhpkpfnaepgbaaArgSS
import Derived.Test.YtlhpkpfnaepgbaaRowOpenTank
import Derived.Deep.RegionHeld3
import Derived.Deep.DeepCutAuto
namespace Go.Proofs.Ytlhpkpfnaepgbaa
open Go.RowKit

set_option maxRecDepth 100000 in
set_option maxHeartbeats 20000000 in
theorem law_IsAtRest (w : World) (a0 : Option Addr) (n0 c0 : Nat) (l0 : List (Int × Int × Int)) (a1 : Option Addr) (n1 c1 : Nat) (l1 : List (List Int)) (h0 : Tanks w a0 n0 c0 l0) (h1 : IntSS w a1 n1 c1 l1) :
    Calls Try.prog 5 #[.slice a0 n0 c0, .slice a1 n1 c1] w fun e w' => e = .returned (.bool true) ∧ New w w' := by
  have HA0 := Lib.hid h0; clear h0
  have HA1 := Lib.hid h1; clear h1
  have qA0 := HA0.out.2.2.1
  have qA1 := HA1.out.2.2.1
  go_enter Try.func5, Try.ntmps5
  go_wp2_with fail
  refine (szTankS_any _ _ _ _ _ qA0 (by omega) (by omega)).mono ?_
  rintro e z1 ⟨rz1, rfl, g1z1, g2z1, g3z1, n_z1⟩
  have Gz1 := Lib.hid g3z1; clear g3z1
  have Kz1 := Lib.hid (show New w z1 from New.trans (by repeat (first | with_reducible exact New.refl _ | with_reducible assumption | refine New.drewN ?_ _ | refine New.drew ?_ | refine New.alloc ?_ _ | refine New.setCell ?_ (by first | omega | (simp; omega) | (simp; done)) _ | (refine New.trans ?_ (by assumption)))) n_z1); clear n_z1
  by_cases hrz1 : rz1 < 0
  · go_wp2
    go_ret
    exact ⟨rfl, Kz1.out⟩
  · have hn0 : n0 ≤ 1048576 := by have := (Gz1.out (by omega)).1; omega
    go_wp2_with fail
    refine (szIntSS_any _ _ _ _ _ _ (HA1.out.new Kz1.out) (by omega) (by omega)).mono ?_
    rintro e z2 ⟨rz2, rfl, g1z2, g2z2, g3z2, n_z2⟩
    have Gz2 := Lib.hid g3z2; clear g3z2
    have Kz2 := Lib.hid n_z2; clear n_z2
    by_cases hrz2 : rz2 < 0
    · go_wp2
      go_ret
      exact ⟨rfl, (Kz1.out.trans Kz2.out)⟩
    · have hn1 : n1 ≤ 1048576 := by have := (Gz2.out (by omega)).1; omega
      have hm1 : totalSS l1 ≤ 1048576 := by have := (Gz2.out (by omega)).2.1; omega
      go_wp2_with fail
      refine (toTankS_any _ _ _ _ _ (HA0.out.new (Kz1.out.trans Kz2.out)) hn0).mono ?_
      rintro e u3 ⟨x0a, x0c, rfl, oX0, n_u3⟩
      have Ku3 := Lib.hid n_u3; clear n_u3
      have OX0 := Lib.hid oX0; clear oX0
      go_wp2_with fail
      refine (toIntSS_any _ _ _ _ _ (HA1.out.new ((Kz1.out.trans Kz2.out).trans Ku3.out)) ⟨hn1, hm1⟩).mono ?_
      rintro e u4 ⟨x1a, x1c, rfl, oX1, n_u4⟩
      have Ku4 := Lib.hid n_u4; clear n_u4
      have OX1 := Lib.hid oX1; clear oX1
      go_wp2_with fail
      refine (sIsAtRest_any _ _ _ _ _ _ _ _ _ (OX0.out.new Ku4.out).reads OX1.out.reads).mono ?_
      rintro e u5 ⟨rfl, n_u5⟩
      have Ku5 := Lib.hid n_u5; clear n_u5
      go_wp2_with fail
      refine (toTankS_any _ _ _ _ _ (HA0.out.new ((((Kz1.out.trans Kz2.out).trans Ku3.out).trans Ku4.out).trans Ku5.out)) hn0).mono ?_
      rintro e u6 ⟨x2a, x2c, rfl, oX2, n_u6⟩
      have Ku6 := Lib.hid n_u6; clear n_u6
      have OX2 := Lib.hid oX2; clear oX2
      go_wp2_with fail
      refine (toIntSS_any _ _ _ _ _ (HA1.out.new (((((Kz1.out.trans Kz2.out).trans Ku3.out).trans Ku4.out).trans Ku5.out).trans Ku6.out)) ⟨hn1, hm1⟩).mono ?_
      rintro e u7 ⟨x3a, x3c, rfl, oX3, n_u7⟩
      have Ku7 := Lib.hid n_u7; clear n_u7
      have OX3 := Lib.hid oX3; clear oX3
      go_wp2_with fail
      refine (iIsAtRest_any _ _ _ _ _ _ _ _ _ (OX2.out.new Ku7.out).reads OX3.out.reads).mono ?_
      rintro e u8 ⟨rfl, n_u8⟩
      have Ku8 := Lib.hid n_u8; clear n_u8
      go_wp2_with fail
      refine (toTankS_any _ _ _ _ _ (HA0.out.new (((((((Kz1.out.trans Kz2.out).trans Ku3.out).trans Ku4.out).trans Ku5.out).trans Ku6.out).trans Ku7.out).trans Ku8.out)) hn0).mono ?_
      rintro e u9 ⟨x4a, x4c, rfl, oX4, n_u9⟩
      have Ku9 := Lib.hid n_u9; clear n_u9
      have OX4 := Lib.hid oX4; clear oX4
      go_wp2_with fail
      refine (eqTankS_same _ _ _ _ _ _ _ _ (OX2.out.new ((Ku7.out.trans Ku8.out).trans Ku9.out)).reads OX4.out.reads).mono ?_
      rintro e u10 ⟨rfl, n_u10⟩
      have Ku10 := Lib.hid n_u10; clear n_u10
      go_wp2_with fail
      refine (toIntSS_any _ _ _ _ _ (HA1.out.new (((((((((Kz1.out.trans Kz2.out).trans Ku3.out).trans Ku4.out).trans Ku5.out).trans Ku6.out).trans Ku7.out).trans Ku8.out).trans Ku9.out).trans Ku10.out)) ⟨hn1, hm1⟩).mono ?_
      rintro e u11 ⟨x5a, x5c, rfl, oX5, n_u11⟩
      have Ku11 := Lib.hid n_u11; clear n_u11
      have OX5 := Lib.hid oX5; clear oX5
      go_wp2_with fail
      refine (eqIntSS_same _ _ _ _ _ _ _ _ (OX3.out.new (((Ku8.out.trans Ku9.out).trans Ku10.out).trans Ku11.out)).reads OX5.out.reads).mono ?_
      rintro e u12 ⟨rfl, n_u12⟩
      have Ku12 := Lib.hid n_u12; clear n_u12
      go_wp2
      go_ret
      exact ⟨rfl, (((((((((((Kz1.out.trans Kz2.out).trans Ku3.out).trans Ku4.out).trans Ku5.out).trans Ku6.out).trans Ku7.out).trans Ku8.out).trans Ku9.out).trans Ku10.out).trans Ku11.out).trans Ku12.out)⟩
end Go.Proofs.Ytlhpkpfnaepgbaa
