/- The law of MoveText: its walk. -/
import Derived.Test.YtkonhflamnekcaaDoorMoveT
namespace Go.Proofs.YtkonhflamnekcaaDoor
open Go.RowKit

set_option maxRecDepth 100000 in
set_option maxHeartbeats 4000000 in
theorem law_MoveText (w : World) (f t : Int) :
    Calls Tryd.prog 5 #[.agg #[.int .i64 f, .int .i64 t]] w fun e w' => e = .returned (.bool true) ∧ New w w' := by
  obtain ⟨T, hT⟩ : ∃ T, T = moveT f t := ⟨_, rfl⟩
  obtain ⟨B, hB⟩ : ∃ B, B = moveB 5 f t := ⟨_, rfl⟩
  have HT := Lib.hid hT; clear hT
  have HB := Lib.hid hB; clear hB
  go_enter Tryd.func5, Tryd.ntmps5
  go_wp2_with fail
  refine (toMove_any _ _ _).mono ?_
  rintro e w2 ⟨rfl, n2⟩
  have a0 : w2.cell? ⟨w.heap.size, 0, none⟩ = some (.int .i64 f) := n2.cell (by simp [go_sem])
  have a1 : w2.cell? ⟨w.heap.size, 1, none⟩ = some (.int .i64 t) := n2.cell (by simp [go_sem])
  have N2 := Lib.hid (show New w w2 from New.trans (by repeat (first | with_reducible exact New.refl _ | with_reducible assumption | refine New.drewN ?_ _ | refine New.drew ?_ | refine New.alloc ?_ _ | refine New.setCell ?_ (by first | omega | (simp; omega) | (simp; done)) _ | (refine New.trans ?_ (by assumption)))) n2); clear n2
  go_wp2_with fail
  refine (sMoveText_any _ f t).mono ?_
  rw [← HT.out, ← HB.out]
  rintro e w3 ⟨rfl, n3⟩
  have b0 := n3.cell a0
  have b1 := n3.cell a1
  have N3 := Lib.hid (N2.out.trans n3); clear n3 a0 a1
  go_wp2_with fail
  refine (toMove_any _ _ _).mono ?_
  rintro e w4 ⟨rfl, n4⟩
  have N4 := Lib.hid (N3.out.trans (New.trans (by repeat (first | with_reducible exact New.refl _ | with_reducible assumption | refine New.drewN ?_ _ | refine New.drew ?_ | refine New.alloc ?_ _ | refine New.setCell ?_ (by first | omega | (simp; omega) | (simp; done)) _ | (refine New.trans ?_ (by assumption)))) n4)); clear n4 b0 b1
  go_wp2_with fail
  refine (iMoveText_any _ f t).mono ?_
  rw [← HT.out, ← HB.out]
  rintro e w5 ⟨rfl, n5⟩
  have N5 := Lib.hid (N4.out.trans (New.trans (by repeat (first | with_reducible exact New.refl _ | with_reducible assumption | refine New.drewN ?_ _ | refine New.drew ?_ | refine New.alloc ?_ _ | refine New.setCell ?_ (by first | omega | (simp; omega) | (simp; done)) _ | (refine New.trans ?_ (by assumption)))) n5)); clear n5
  go_wp2
  go_ret
  exact ⟨rfl, N5.out⟩
end Go.Proofs.YtkonhflamnekcaaDoor
