/- The law of TwoVesselPlan: its walk. -/
import Derived.Test.YtjailklnagfglaaTwo
namespace Go.Proofs.Ytjailklnagfglaa
open Go.RowKit

set_option maxRecDepth 100000 in
set_option maxHeartbeats 4000000 in
theorem law_TwoVesselPlan (w : World) (x0 x1 x2 : Int) : Calls Try.prog 8 #[.int .i64 x0, .int .i64 x1, .int .i64 x2] w fun e w' => e = .returned (.bool true) ∧ New w w' := by
  obtain ⟨z, hz⟩ : ∃ z, z = twoM x0 x1 x2 := ⟨_, rfl⟩
  have LR := Lib.hid (show z.1.length ≤ 1048576 from by rw [hz]; exact twoM_small _ _ _)
  have HZ := Lib.hid hz; clear hz
  go_enter Try.func8, Try.ntmps8
  go_wp2_with fail
  refine (sTwoVesselPlan_any _ x0 x1 x2).mono ?_
  rintro e w1 ⟨pa, pn, pc, rfl, op, n1⟩
  rw [← HZ.out] at op ⊢
  have OP := Lib.hid op
  have N1 := Lib.hid n1; clear op n1
  go_wp2_with fail
  refine (iTwoVesselPlan_any _ x0 x1 x2).mono ?_
  rintro e w2 ⟨ga, gn, gc, rfl, og, n2⟩
  rw [← HZ.out] at og ⊢
  have OG := Lib.hid og
  have N2 := Lib.hid n2; clear og n2
  have OP2 := Lib.hid (OP.out.new N2.out)
  have gl : gn ≤ 1048576 := by have := OG.out.1; have := LR.out; omega
  have z2 := N2.out.size
  have z1 := N1.out.size
  go_wp2_with fail
  refine (eqMoveS_any _ _ _ _ _ _ _ _ _ OG.out.pairs OP2.out.pairs).mono ?_
  rintro e w3 ⟨rfl, n3⟩
  have N3 := Lib.hid n3; clear n3
  rw [decide_eq_true (rfl : z.1 = z.1)]
  go_wp2_with fail
  refine (markMoveS_any _ w1.heap.size w2.heap.size _ _ _ _ _ (OG.out.new N3.out) (by omega) (by omega)).mono ?_
  rintro e w4 ⟨rfl, o4, k4⟩
  have O4 := Lib.hid o4
  have K4 := Lib.hid k4; clear o4 k4
  have z3 := N3.out.size
  have OP4 := Lib.hid ((OP2.out.new N3.out).chg K4.out (fun b h1 h2 h => by have := OG.out.bounds h.1 h.2; omega))
  go_wp2_with fail
  refine (heldMoveS_any _ _ _ _ _ O4.out.pairs (by omega) (by omega)).mono ?_
  rintro e w5 ⟨rfl, n5⟩
  have N5 := Lib.hid n5; clear n5
  have eg : ¬ 1 + 2 * (gn : Int) < 0 := by omega
  have eg2 : (1 + 2 * (gn : Int) != 1 + 2 * (gn : Int)) = false := by simp
  have U5 := Lib.hid (show New w w5 from by
    have q3 := (N1.out.trans N2.out).trans N3.out
    have q4 := Chg.new q3 K4.out (fun i hi => by have := OG.out.bounds hi.1 hi.2; omega)
    exact q4.trans N5.out)
  have K45 := Lib.hid (K4.out.size)
  go_wp2_with fail
  refine (iTwoVesselPlan_any _ x0 x1 x2).mono ?_
  rintro e w6 ⟨ha, hn, hc, rfl, oh, n6⟩
  rw [← HZ.out] at oh ⊢
  have OH := Lib.hid oh
  have N6 := Lib.hid n6; clear oh n6
  go_wp2_with fail
  refine (eqMoveS_any _ _ _ _ _ _ _ _ _ OH.out.pairs (((OP4.out.new N5.out).new N6.out).pairs)).mono ?_
  rintro e w7 ⟨rfl, n7⟩
  have N7 := Lib.hid n7; clear n7
  rw [decide_eq_true (rfl : z.1 = z.1)]
  go_wp2_with fail
  refine (heldMoveS_any _ _ _ _ _ ((((O4.out.new N5.out).new N6.out).new N7.out).pairs) (by omega) (by omega)).mono ?_
  rintro e w8 ⟨rfl, n8⟩
  have N8 := Lib.hid n8; clear n8
  go_wp2
  go_ret
  exact ⟨rfl, ((U5.out.trans N6.out).trans N7.out).trans N8.out⟩
end Go.Proofs.Ytjailklnagfglaa
