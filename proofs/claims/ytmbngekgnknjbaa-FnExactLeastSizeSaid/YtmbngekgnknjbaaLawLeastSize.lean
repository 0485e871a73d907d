/- The law of LeastSize: its walk. -/
import Derived.Test.YtmbngekgnknjbaaLsI
import Derived.Test.YtmbngekgnknjbaaLsS
import Derived.Test.YtmbngekgnknjbaaRowOpenBasin
import Derived.Deep.RegionHeld3
import Derived.Deep.DeepCutAuto
namespace Go.Proofs.Ytmbngekgnknjbaa
open Go.RowKit

set_option maxRecDepth 100000 in
set_option maxHeartbeats 20000000 in
theorem law_LeastSize (w : World) (a0 : Option Addr) (n0 c0 : Nat) (l0 : List (Int × Int × Int)) (x1 : Int) (a2 : Option Addr) (n2 c2 : Nat) (l2 : List Int) (h0 : Basins w a0 n0 c0 l0) (h2 : Ints w a2 n2 c2 l2) :
    Calls Try.prog 12 #[.slice a0 n0 c0, .int .i64 x1, .slice a2 n2 c2] w fun e w' => e = .returned (.bool true) ∧ New w w' := by
  have HA0 := Lib.hid h0; clear h0
  have HA2 := Lib.hid h2; clear h2
  have qA0 := HA0.out.2.2.1
  have qA2 := HA2.out.2.2.1
  go_enter Try.func12, Try.ntmps12
  by_cases hn2 : 1048576 < (n2 : Int)
  · go_wp2
    go_ret
    exact ⟨rfl, (by repeat (first | with_reducible exact New.refl _ | with_reducible assumption | refine New.drewN ?_ _ | refine New.drew ?_ | refine New.alloc ?_ _ | refine New.setCell ?_ (by first | omega | (simp; omega) | (simp; done)) _ | (refine New.trans ?_ (by assumption))))⟩
  · replace hn2 : n2 ≤ 1048576 := by omega
    go_wp2_with fail
    refine (szBasinS_any _ _ _ _ _ qA0 (by omega) (by omega)).mono ?_
    rintro e z1 ⟨rz1, rfl, g1z1, g2z1, g3z1, n_z1⟩
    have Gz1 := Lib.hid g3z1; clear g3z1
    have Kz1 := Lib.hid (show New w z1 from New.trans (by repeat (first | with_reducible exact New.refl _ | with_reducible assumption | refine New.drewN ?_ _ | refine New.drew ?_ | refine New.alloc ?_ _ | refine New.setCell ?_ (by first | omega | (simp; omega) | (simp; done)) _ | (refine New.trans ?_ (by assumption)))) n_z1); clear n_z1
    by_cases hrz1 : rz1 < 0
    · go_wp2
      go_ret
      exact ⟨rfl, Kz1.out⟩
    · have hn0 : n0 ≤ 1048576 := by have := (Gz1.out (by omega)).1; omega
      go_wp2_with fail
      refine (toBasinS_any _ _ _ _ _ (HA0.out.new Kz1.out) hn0).mono ?_
      rintro e u2 ⟨x0a, x0c, rfl, oX0, n_u2⟩
      have Ku2 := Lib.hid n_u2; clear n_u2
      have OX0 := Lib.hid oX0; clear oX0
      go_wp2_with fail
      refine (toIntS_any _ _ _ _ _ (HA2.out.new (Kz1.out.trans Ku2.out)) hn2).mono ?_
      rintro e u3 ⟨x1a, x1c, rfl, oX1, n_u3⟩
      have Ku3 := Lib.hid n_u3; clear n_u3
      have OX1 := Lib.hid oX1; clear oX1
      go_wp2_with fail
      refine (sLeastSize_any _ _ _ _ _ _ _ _ _ _ (OX0.out.new Ku3.out).reads OX1.out.ints).mono ?_
      rintro e u4 ⟨rfl, n_u4⟩
      have Ku4 := Lib.hid n_u4; clear n_u4
      go_wp2_with fail
      refine (toBasinS_any _ _ _ _ _ (HA0.out.new (((Kz1.out.trans Ku2.out).trans Ku3.out).trans Ku4.out)) hn0).mono ?_
      rintro e u5 ⟨x2a, x2c, rfl, oX2, n_u5⟩
      have Ku5 := Lib.hid n_u5; clear n_u5
      have OX2 := Lib.hid oX2; clear oX2
      go_wp2_with fail
      refine (toIntS_any _ _ _ _ _ (HA2.out.new ((((Kz1.out.trans Ku2.out).trans Ku3.out).trans Ku4.out).trans Ku5.out)) hn2).mono ?_
      rintro e u6 ⟨x3a, x3c, rfl, oX3, n_u6⟩
      have Ku6 := Lib.hid n_u6; clear n_u6
      have OX3 := Lib.hid oX3; clear oX3
      go_wp2_with fail
      refine (iLeastSize_any _ _ _ _ _ _ _ _ _ _ (OX2.out.new Ku6.out).reads OX3.out.ints).mono ?_
      rintro e u7 ⟨rfl, n_u7⟩
      have Ku7 := Lib.hid n_u7; clear n_u7
      go_wp2_with fail
      refine (toBasinS_any _ _ _ _ _ (HA0.out.new ((((((Kz1.out.trans Ku2.out).trans Ku3.out).trans Ku4.out).trans Ku5.out).trans Ku6.out).trans Ku7.out)) hn0).mono ?_
      rintro e u8 ⟨x4a, x4c, rfl, oX4, n_u8⟩
      have Ku8 := Lib.hid n_u8; clear n_u8
      have OX4 := Lib.hid oX4; clear oX4
      go_wp2_with fail
      refine (eqBasinS_same _ _ _ _ _ _ _ _ (OX2.out.new ((Ku6.out.trans Ku7.out).trans Ku8.out)).reads OX4.out.reads).mono ?_
      rintro e u9 ⟨rfl, n_u9⟩
      have Ku9 := Lib.hid n_u9; clear n_u9
      go_wp2_with fail
      refine (toIntS_any _ _ _ _ _ (HA2.out.new ((((((((Kz1.out.trans Ku2.out).trans Ku3.out).trans Ku4.out).trans Ku5.out).trans Ku6.out).trans Ku7.out).trans Ku8.out).trans Ku9.out)) hn2).mono ?_
      rintro e u10 ⟨x5a, x5c, rfl, oX5, n_u10⟩
      have Ku10 := Lib.hid n_u10; clear n_u10
      have OX5 := Lib.hid oX5; clear oX5
      go_wp2_with fail
      refine (eqIntS_same _ _ _ _ _ _ _ _ (OX3.out.new (((Ku7.out.trans Ku8.out).trans Ku9.out).trans Ku10.out)).ints OX5.out.ints).mono ?_
      rintro e u11 ⟨rfl, n_u11⟩
      have Ku11 := Lib.hid n_u11; clear n_u11
      go_wp2
      go_ret
      exact ⟨rfl, ((((((((((Kz1.out.trans Ku2.out).trans Ku3.out).trans Ku4.out).trans Ku5.out).trans Ku6.out).trans Ku7.out).trans Ku8.out).trans Ku9.out).trans Ku10.out).trans Ku11.out)⟩
end Go.Proofs.Ytmbngekgnknjbaa
