/- The law of TwoVesselLength: its walk. -/
import Derived.Test.YtjailklnagfglaaTwo
namespace Go.Proofs.Ytjailklnagfglaa
open Go.RowKit

set_option maxRecDepth 100000 in
theorem law_TwoVesselLength (w : World) (x0 x1 x2 : Int) : Calls Try.prog 9 #[.int .i64 x0, .int .i64 x1, .int .i64 x2] w fun e w' => e = .returned (.bool true) ∧ New w w' := by
  obtain ⟨z, hz⟩ : ∃ z, z = twoN x0 x1 x2 := ⟨_, rfl⟩
  have HZ := Lib.hid hz; clear hz
  go_enter Try.func9, Try.ntmps9
  go_wp2_with fail
  refine (sTwoVesselLength_any _ x0 x1 x2).mono ?_
  rintro e w1 ⟨rfl, n1⟩
  rw [← HZ.out]
  have N1 := Lib.hid n1; clear n1
  go_wp2_with fail
  refine (iTwoVesselLength_any _ x0 x1 x2).mono ?_
  rintro e w2 ⟨rfl, n2⟩
  rw [← HZ.out]
  have N2 := Lib.hid (N1.out.trans n2); clear n2
  go_wp2
  go_ret
  exact ⟨rfl, N2.out⟩
end Go.Proofs.Ytjailklnagfglaa
