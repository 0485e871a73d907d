/- The law of AreTanks: its walk. -/
import Derived.Test.YtklfelbolblgfaaSm
import Derived.Test.YtklfelbolblgfaaRowOpenTank
import Derived.Deep.RegionHeld3
import Derived.Deep.DeepCutAuto
namespace Go.Proofs.Ytklfelbolblgfaa
open Go.RowKit

set_option maxRecDepth 100000 in
set_option maxHeartbeats 20000000 in
theorem law_AreTanks (w : World) (a0 : Option Addr) (n0 c0 : Nat) (l0 : List (Int × Int × Int)) (h0 : Tanks w a0 n0 c0 l0) :
    Calls Try.prog 5 #[.slice a0 n0 c0] w fun e w' => e = .returned (.bool true) ∧ New w w' := by
  have HA0 := Lib.hid h0; clear h0
  have qA0 := HA0.out.2.2.1
  go_enter Try.func5, Try.ntmps5
  go_wp2_with fail
  refine (szTankS_any _ _ _ _ _ qA0 (by omega) (by omega)).mono ?_
  rintro e z1 ⟨rz1, rfl, g1z1, g2z1, g3z1, n_z1⟩
  have Gz1 := Lib.hid g3z1; clear g3z1
  have Kz1 := Lib.hid (show New w z1 from New.trans (by repeat (first | with_reducible exact New.refl _ | with_reducible assumption | refine New.drewN ?_ _ | refine New.drew ?_ | refine New.alloc ?_ _ | refine New.setCell ?_ (by first | omega | (simp; omega) | (simp; done)) _ | (refine New.trans ?_ (by assumption)))) n_z1); clear n_z1
  by_cases hrz1 : rz1 < 0
  · go_wp2
    go_ret
    exact ⟨rfl, Kz1.out⟩
  · have hn0 : n0 ≤ 1048576 := by have := (Gz1.out (by omega)).1; omega
    go_wp2_with fail
    refine (toTankS_any _ _ _ _ _ (HA0.out.new Kz1.out) hn0).mono ?_
    rintro e u2 ⟨x0a, x0c, rfl, oX0, n_u2⟩
    have Ku2 := Lib.hid n_u2; clear n_u2
    have OX0 := Lib.hid oX0; clear oX0
    go_wp2_with fail
    refine (sAreTanks_any _ _ _ _ _ OX0.out.reads).mono ?_
    rintro e u3 ⟨rfl, n_u3⟩
    have Ku3 := Lib.hid n_u3; clear n_u3
    go_wp2_with fail
    refine (toTankS_any _ _ _ _ _ (HA0.out.new ((Kz1.out.trans Ku2.out).trans Ku3.out)) hn0).mono ?_
    rintro e u4 ⟨x1a, x1c, rfl, oX1, n_u4⟩
    have Ku4 := Lib.hid n_u4; clear n_u4
    have OX1 := Lib.hid oX1; clear oX1
    go_wp2_with fail
    refine (iAreTanks_any _ _ _ _ _ OX1.out.reads).mono ?_
    rintro e u5 ⟨rfl, n_u5⟩
    have Ku5 := Lib.hid n_u5; clear n_u5
    go_wp2_with fail
    refine (toTankS_any _ _ _ _ _ (HA0.out.new ((((Kz1.out.trans Ku2.out).trans Ku3.out).trans Ku4.out).trans Ku5.out)) hn0).mono ?_
    rintro e u6 ⟨x2a, x2c, rfl, oX2, n_u6⟩
    have Ku6 := Lib.hid n_u6; clear n_u6
    have OX2 := Lib.hid oX2; clear oX2
    go_wp2_with fail
    refine (eqTankS_same _ _ _ _ _ _ _ _ (OX1.out.new (Ku5.out.trans Ku6.out)).reads OX2.out.reads).mono ?_
    rintro e u7 ⟨rfl, n_u7⟩
    have Ku7 := Lib.hid n_u7; clear n_u7
    go_wp2
    go_ret
    exact ⟨rfl, ((((((Kz1.out.trans Ku2.out).trans Ku3.out).trans Ku4.out).trans Ku5.out).trans Ku6.out).trans Ku7.out)⟩
end Go.Proofs.Ytklfelbolblgfaa
