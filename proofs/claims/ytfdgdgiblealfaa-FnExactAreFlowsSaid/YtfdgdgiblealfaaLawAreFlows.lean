/- The law of AreFlows: its walk. -/
import Derived.Test.YtfdgdgiblealfaaWeirS
import Derived.Test.YtfdgdgiblealfaaRowOpenBasin
import Derived.Deep.RegionHeld3
import Derived.Deep.DeepCutAuto
namespace Go.Proofs.Ytfdgdgiblealfaa
open Go.RowKit

set_option maxRecDepth 100000 in
set_option maxHeartbeats 20000000 in
theorem law_AreFlows (w : World) (a0 : Option Addr) (n0 c0 : Nat) (l0 : List Int) (h0 : Ints w a0 n0 c0 l0) :
    Calls Try.prog 4 #[.slice a0 n0 c0] w fun e w' => e = .returned (.bool true) ∧ New w w' := by
  have HA0 := Lib.hid h0; clear h0
  have qA0 := HA0.out.2.2.1
  go_enter Try.func4, Try.ntmps4
  by_cases hn0 : 1048576 < (n0 : Int)
  · go_wp2
    go_ret
    exact ⟨rfl, (by repeat (first | with_reducible exact New.refl _ | with_reducible assumption | refine New.drewN ?_ _ | refine New.drew ?_ | refine New.alloc ?_ _ | refine New.setCell ?_ (by first | omega | (simp; omega) | (simp; done)) _ | (refine New.trans ?_ (by assumption))))⟩
  · replace hn0 : n0 ≤ 1048576 := by omega
    go_wp2_with fail
    refine (toIntS_any _ _ _ _ _ HA0.out hn0).mono ?_
    rintro e u1 ⟨x0a, x0c, rfl, oX0, n_u1⟩
    have Ku1 := Lib.hid n_u1; clear n_u1
    have OX0 := Lib.hid oX0; clear oX0
    go_wp2_with fail
    refine (sAreFlows_any _ _ _ _ _ OX0.out.ints).mono ?_
    rintro e u2 ⟨rfl, n_u2⟩
    have Ku2 := Lib.hid n_u2; clear n_u2
    go_wp2_with fail
    refine (toIntS_any _ _ _ _ _ (HA0.out.new (Ku1.out.trans Ku2.out)) hn0).mono ?_
    rintro e u3 ⟨x1a, x1c, rfl, oX1, n_u3⟩
    have Ku3 := Lib.hid n_u3; clear n_u3
    have OX1 := Lib.hid oX1; clear oX1
    go_wp2_with fail
    refine (iAreFlows_any _ _ _ _ _ OX1.out.ints).mono ?_
    rintro e u4 ⟨rfl, n_u4⟩
    have Ku4 := Lib.hid n_u4; clear n_u4
    go_wp2_with fail
    refine (toIntS_any _ _ _ _ _ (HA0.out.new (((Ku1.out.trans Ku2.out).trans Ku3.out).trans Ku4.out)) hn0).mono ?_
    rintro e u5 ⟨x2a, x2c, rfl, oX2, n_u5⟩
    have Ku5 := Lib.hid n_u5; clear n_u5
    have OX2 := Lib.hid oX2; clear oX2
    go_wp2_with fail
    refine (eqIntS_same _ _ _ _ _ _ _ _ (OX1.out.new (Ku4.out.trans Ku5.out)).ints OX2.out.ints).mono ?_
    rintro e u6 ⟨rfl, n_u6⟩
    have Ku6 := Lib.hid n_u6; clear n_u6
    go_wp2
    go_ret
    exact ⟨rfl, (((((Ku1.out.trans Ku2.out).trans Ku3.out).trans Ku4.out).trans Ku5.out).trans Ku6.out)⟩
end Go.Proofs.Ytfdgdgiblealfaa
