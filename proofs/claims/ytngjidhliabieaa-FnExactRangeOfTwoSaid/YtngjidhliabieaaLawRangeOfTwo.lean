/- The law of RangeOfTwo: its walk. -/
import Derived.Test.YtngjidhliabieaaGaugeS
import Derived.Test.YtngjidhliabieaaGaugeI
import Derived.Deep.RegionHeld3
import Derived.Deep.DeepCutAuto
namespace Go.Proofs.Ytngjidhliabieaa
open Go.RowKit

set_option maxRecDepth 100000 in
set_option maxHeartbeats 20000000 in
theorem law_RangeOfTwo (w : World) (x0 : Int) (x1 : Int) (a2 : Option Addr) (n2 c2 : Nat) (l2 : List Int) (a3 : Option Addr) (n3 c3 : Nat) (l3 : List Int) (h2 : Ints w a2 n2 c2 l2) (h3 : Ints w a3 n3 c3 l3) :
    Calls Try.prog 14 #[.int .i64 x0, .int .i64 x1, .slice a2 n2 c2, .slice a3 n3 c3] w fun e w' => e = .returned (.bool true) ∧ New w w' := by
  have HA2 := Lib.hid h2; clear h2
  have HA3 := Lib.hid h3; clear h3
  have qA2 := HA2.out.2.2.1
  have qA3 := HA3.out.2.2.1
  go_enter Try.func14, Try.ntmps14
  by_cases hn2 : 1048576 < (n2 : Int)
  · go_wp2
    go_ret
    exact ⟨rfl, (by repeat (first | with_reducible exact New.refl _ | with_reducible assumption | refine New.drewN ?_ _ | refine New.drew ?_ | refine New.alloc ?_ _ | refine New.setCell ?_ (by first | omega | (simp; omega) | (simp; done)) _ | (refine New.trans ?_ (by assumption))))⟩
  · replace hn2 : n2 ≤ 1048576 := by omega
    by_cases hn3 : 1048576 < (n3 : Int)
    · go_wp2
      go_ret
      exact ⟨rfl, (by repeat (first | with_reducible exact New.refl _ | with_reducible assumption | refine New.drewN ?_ _ | refine New.drew ?_ | refine New.alloc ?_ _ | refine New.setCell ?_ (by first | omega | (simp; omega) | (simp; done)) _ | (refine New.trans ?_ (by assumption))))⟩
    · replace hn3 : n3 ≤ 1048576 := by omega
      go_wp2_with fail
      refine (toIntS_any _ _ _ _ _ HA2.out hn2).mono ?_
      rintro e u1 ⟨x0a, x0c, rfl, oX0, n_u1⟩
      have Ku1 := Lib.hid n_u1; clear n_u1
      have OX0 := Lib.hid oX0; clear oX0
      go_wp2_with fail
      refine (toIntS_any _ _ _ _ _ (HA3.out.new Ku1.out) hn3).mono ?_
      rintro e u2 ⟨x1a, x1c, rfl, oX1, n_u2⟩
      have Ku2 := Lib.hid n_u2; clear n_u2
      have OX1 := Lib.hid oX1; clear oX1
      go_wp2_with fail
      refine (sRangeOfTwo_any _ _ _ _ _ _ _ _ _ _ _ (OX0.out.new Ku2.out).ints OX1.out.ints).mono ?_
      rintro e u3 ⟨rfl, n_u3⟩
      have Ku3 := Lib.hid n_u3; clear n_u3
      go_wp2_with fail
      refine (toIntS_any _ _ _ _ _ (HA2.out.new ((Ku1.out.trans Ku2.out).trans Ku3.out)) hn2).mono ?_
      rintro e u4 ⟨x2a, x2c, rfl, oX2, n_u4⟩
      have Ku4 := Lib.hid n_u4; clear n_u4
      have OX2 := Lib.hid oX2; clear oX2
      go_wp2_with fail
      refine (toIntS_any _ _ _ _ _ (HA3.out.new (((Ku1.out.trans Ku2.out).trans Ku3.out).trans Ku4.out)) hn3).mono ?_
      rintro e u5 ⟨x3a, x3c, rfl, oX3, n_u5⟩
      have Ku5 := Lib.hid n_u5; clear n_u5
      have OX3 := Lib.hid oX3; clear oX3
      go_wp2_with fail
      refine (iRangeOfTwo_any _ _ _ _ _ _ _ _ _ _ _ (OX2.out.new Ku5.out).ints OX3.out.ints).mono ?_
      rintro e u6 ⟨rfl, n_u6⟩
      have Ku6 := Lib.hid n_u6; clear n_u6
      go_wp2_with fail
      refine (toIntS_any _ _ _ _ _ (HA2.out.new (((((Ku1.out.trans Ku2.out).trans Ku3.out).trans Ku4.out).trans Ku5.out).trans Ku6.out)) hn2).mono ?_
      rintro e u7 ⟨x4a, x4c, rfl, oX4, n_u7⟩
      have Ku7 := Lib.hid n_u7; clear n_u7
      have OX4 := Lib.hid oX4; clear oX4
      go_wp2_with fail
      refine (eqIntS_same _ _ _ _ _ _ _ _ (OX2.out.new ((Ku5.out.trans Ku6.out).trans Ku7.out)).ints OX4.out.ints).mono ?_
      rintro e u8 ⟨rfl, n_u8⟩
      have Ku8 := Lib.hid n_u8; clear n_u8
      go_wp2_with fail
      refine (toIntS_any _ _ _ _ _ (HA3.out.new (((((((Ku1.out.trans Ku2.out).trans Ku3.out).trans Ku4.out).trans Ku5.out).trans Ku6.out).trans Ku7.out).trans Ku8.out)) hn3).mono ?_
      rintro e u9 ⟨x5a, x5c, rfl, oX5, n_u9⟩
      have Ku9 := Lib.hid n_u9; clear n_u9
      have OX5 := Lib.hid oX5; clear oX5
      go_wp2_with fail
      refine (eqIntS_same _ _ _ _ _ _ _ _ (OX3.out.new (((Ku6.out.trans Ku7.out).trans Ku8.out).trans Ku9.out)).ints OX5.out.ints).mono ?_
      rintro e u10 ⟨rfl, n_u10⟩
      have Ku10 := Lib.hid n_u10; clear n_u10
      go_wp2
      go_ret
      exact ⟨rfl, (((((((((Ku1.out.trans Ku2.out).trans Ku3.out).trans Ku4.out).trans Ku5.out).trans Ku6.out).trans Ku7.out).trans Ku8.out).trans Ku9.out).trans Ku10.out)⟩
end Go.Proofs.Ytngjidhliabieaa
