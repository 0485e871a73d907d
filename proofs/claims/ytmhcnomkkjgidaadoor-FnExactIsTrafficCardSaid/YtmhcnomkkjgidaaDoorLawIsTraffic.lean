/- The law of IsTraffic: its walk. -/
import Derived.Test.YtmhcnomkkjgidaaDoorTra
namespace Go.Proofs.YtmhcnomkkjgidaaDoor
open Go.RowKit

set_option maxRecDepth 100000 in
set_option maxHeartbeats 4000000 in
theorem law_IsTraffic (w : World) (s : ByteArray) (hs : s.size ≤ maxLen) :
    Calls Tryd.prog 3 #[.string s] w fun e w' => e = .returned (.bool true) ∧ New w w' := by
  unfold maxLen at hs
  by_cases hb : s.size ≤ 1048576
  · obtain ⟨B, hB⟩ : ∃ B, B = trB s := ⟨_, rfl⟩
    have HB := Lib.hid hB; clear hB
    go_enter Tryd.func3, Tryd.ntmps3
    go_wp2_with fail
    refine (sIsTraffic_any _ s hb).mono ?_
    rw [← HB.out]
    rintro e w1 ⟨rfl, n1⟩
    have N1 := Lib.hid n1; clear n1
    go_wp2_with fail
    refine (iIsTraffic_any _ s hb).mono ?_
    rw [← HB.out]
    rintro e w2 ⟨rfl, n2⟩
    have N2 := Lib.hid (N1.out.trans n2); clear n2
    go_wp2
    go_ret
    exact ⟨ret_bool rfl, N2.out⟩
  · go_enter Tryd.func3, Tryd.ntmps3
    go_wp2
    go_ret
    exact ⟨ret_bool rfl, New.refl _⟩
end Go.Proofs.YtmhcnomkkjgidaaDoor
