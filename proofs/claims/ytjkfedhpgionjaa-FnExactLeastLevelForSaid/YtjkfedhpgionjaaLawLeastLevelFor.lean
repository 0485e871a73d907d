/- The law of LeastLevelFor: its walk. -/
import Derived.Test.YtjkfedhpgionjaaLeI
import Derived.Test.YtjkfedhpgionjaaClkL
import Derived.Deep.RegionHeld3
import Derived.Deep.DeepCutAuto
namespace Go.Proofs.Ytjkfedhpgionjaa
open Go.RowKit

set_option maxRecDepth 100000 in
set_option maxHeartbeats 20000000 in
theorem law_LeastLevelFor (w : World) (x0 : Int) (x1 : Int) :
    Calls Try.prog 5 #[.int .i64 x0, .int .i64 x1] w fun e w' => e = .returned (.bool true) ∧ New w w' := by
  go_enter Try.func5, Try.ntmps5
  go_wp2_with fail
  refine (sLeastLevelFor_any _ _ _ ).mono ?_
  rintro e u1 ⟨rfl, n_u1⟩
  have Ku1 := Lib.hid n_u1; clear n_u1
  go_wp2_with fail
  refine (iLeastLevelFor_any _ _ _ ).mono ?_
  rintro e u2 ⟨rfl, n_u2⟩
  have Ku2 := Lib.hid n_u2; clear n_u2
  go_wp2
  go_ret
  exact ⟨rfl, (Ku1.out.trans Ku2.out)⟩
end Go.Proofs.Ytjkfedhpgionjaa
