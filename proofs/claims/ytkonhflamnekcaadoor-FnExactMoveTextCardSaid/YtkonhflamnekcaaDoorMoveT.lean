/- MoveText, the model's and the program's. -/
import Derived.Test.YtkonhflamnekcaaDoorEndI
import Derived.Deep.RegionHeld3
namespace Go.Proofs.YtkonhflamnekcaaDoor
open Go.RowKit

theorem moveB_le {f t : Int} (h : moveB 5 f t = true) : (-1 ≤ f ∧ f < 5) ∧ (-1 ≤ t ∧ t < 5) := by
  have := moveB_iff.1 h
  exact ⟨this.1, this.2.1⟩

set_option maxRecDepth 100000 in
set_option maxHeartbeats 2000000 in
theorem sMoveText_any (w : World) (f t : Int) :
    Calls Tryd.prog 16 #[.agg #[.int .i64 f, .int .i64 t]] w fun e w' => e = .returned (.tuple #[.string (moveT f t), .bool (moveB 5 f t)]) ∧ New w w' := by
  by_cases hb : moveB 5 f t = true
  · obtain ⟨⟨f0, f5⟩, ⟨t0, t5⟩⟩ := moveB_le hb
    have HT := Lib.hid (show moveT f t = endT f 116 ++ ⟨#[62]⟩ ++ endT t 100 from if_pos hb)
    have HB := Lib.hid hb; clear hb
    have e1 : ¬ 9223372036854775807 < (endT f 116).size + 1 := by rw [endT_size]; omega
    have e2 : ¬ 9223372036854775807 < (endT f 116).size + 1 + (endT t 100).size := by rw [endT_size, endT_size]; omega
    go_enter Tryd.func16, Tryd.ntmps16
    go_wp2_with fail
    refine (veMove_any _ 5 f t (by omega)).mono ?_
    rw [HB.out]
    rintro e w1 ⟨rfl, n1⟩
    have c0 : w1.cell? ⟨w.heap.size, 0, none⟩ = some (.int .i64 f) := n1.cell (by simp [go_sem])
    have c1 : w1.cell? ⟨w.heap.size, 1, none⟩ = some (.int .i64 t) := n1.cell (by simp [go_sem])
    have N1 := Lib.hid (show New w w1 from New.trans (by repeat (first | with_reducible exact New.refl _ | with_reducible assumption | refine New.drewN ?_ _ | refine New.drew ?_ | refine New.alloc ?_ _ | refine New.setCell ?_ (by first | omega | (simp; omega) | (simp; done)) _ | (refine New.trans ?_ (by assumption)))) n1); clear n1
    go_wp2_with fail
    go_region_held3 (fun w' => w'.cell? ⟨w.heap.size, 0, none⟩ = some (.int .i64 f) ∧ w'.cell? ⟨w.heap.size, 1, none⟩ = some (.int .i64 t))
      (first | exact ⟨c0, c1⟩ | exact ⟨n2.cell c0, n2.cell c1⟩ | exact ⟨n3.cell (n2.cell c0), n3.cell (n2.cell c1)⟩ | fail)
      (first
        | (go_at_call 36; refine (veEnd_any _ f 116 f0 f5).mono ?_; rintro e w2 ⟨rfl, n2⟩)
        | (go_at_call 36; refine (veEnd_any _ t 100 t0 t5).mono ?_; rintro e w3 ⟨rfl, n3⟩)
        | fail)
    go_wp2
    go_ret2
    refine ⟨?_, (by repeat (first | with_reducible exact New.refl _ | with_reducible assumption | refine New.drewN ?_ _ | refine New.drew ?_ | refine New.alloc ?_ _ | refine New.setCell ?_ (by first | omega | (simp; omega) | (simp; done)) _ | (refine New.trans ?_ (by assumption))))⟩
    rw [HT.out, HB.out]
    rfl
  · have hb' : moveB 5 f t = false := by simpa using hb
    have HT := Lib.hid (show moveT f t = ⟨#[]⟩ from if_neg hb)
    have HB := Lib.hid hb'; clear hb hb'
    go_enter Tryd.func16, Tryd.ntmps16
    go_wp2_with fail
    refine (veMove_any _ 5 f t (by omega)).mono ?_
    rw [HB.out]
    rintro e w1 ⟨rfl, n1⟩
    go_wp2
    go_ret2
    refine ⟨?_, (by repeat (first | with_reducible exact New.refl _ | with_reducible assumption | refine New.drewN ?_ _ | refine New.drew ?_ | refine New.alloc ?_ _ | refine New.setCell ?_ (by first | omega | (simp; omega) | (simp; done)) _ | (refine New.trans ?_ (by assumption))))⟩
    rw [HT.out, HB.out]
    rfl

set_option maxRecDepth 100000 in
set_option maxHeartbeats 2000000 in
theorem iMoveText_any (w : World) (f t : Int) :
    Calls Tryd.prog 18 #[.agg #[.int .i64 f, .int .i64 t]] w fun e w' => e = .returned (.tuple #[.string (moveT f t), .bool (moveB 5 f t)]) ∧ New w w' := by
  by_cases hb : moveB 5 f t = true
  · obtain ⟨⟨f0, f5⟩, ⟨t0, t5⟩⟩ := moveB_le hb
    have HT := Lib.hid (show moveT f t = endT f 116 ++ ⟨#[62]⟩ ++ endT t 100 from if_pos hb)
    have HB := Lib.hid hb; clear hb
    have e1 : ¬ 9223372036854775807 < (endT f 116).size + 1 := by rw [endT_size]; omega
    have e2 : ¬ 9223372036854775807 < (endT f 116).size + 1 + (endT t 100).size := by rw [endT_size, endT_size]; omega
    go_enter Tryd.func18, Tryd.ntmps18
    go_wp2_with fail
    refine (isMoveAmong_any _ 5 f t (by omega)).mono ?_
    rw [HB.out]
    rintro e w1 ⟨rfl, n1⟩
    have c0 : w1.cell? ⟨w.heap.size, 0, none⟩ = some (.int .i64 f) := n1.cell (by simp [go_sem])
    have c1 : w1.cell? ⟨w.heap.size, 1, none⟩ = some (.int .i64 t) := n1.cell (by simp [go_sem])
    have N1 := Lib.hid (show New w w1 from New.trans (by repeat (first | with_reducible exact New.refl _ | with_reducible assumption | refine New.drewN ?_ _ | refine New.drew ?_ | refine New.alloc ?_ _ | refine New.setCell ?_ (by first | omega | (simp; omega) | (simp; done)) _ | (refine New.trans ?_ (by assumption)))) n1); clear n1
    go_wp2_with fail
    go_region_held3 (fun w' => w'.cell? ⟨w.heap.size, 0, none⟩ = some (.int .i64 f) ∧ w'.cell? ⟨w.heap.size, 1, none⟩ = some (.int .i64 t))
      (first | exact ⟨c0, c1⟩ | exact ⟨n2.cell c0, n2.cell c1⟩ | exact ⟨n3.cell (n2.cell c0), n3.cell (n2.cell c1)⟩ | fail)
      (first
        | (go_at_call 38; refine (endText_any _ f 116 f0 f5).mono ?_; rintro e w2 ⟨rfl, n2⟩)
        | (go_at_call 38; refine (endText_any _ t 100 t0 t5).mono ?_; rintro e w3 ⟨rfl, n3⟩)
        | fail)
    go_wp2
    go_ret2
    refine ⟨?_, (by repeat (first | with_reducible exact New.refl _ | with_reducible assumption | refine New.drewN ?_ _ | refine New.drew ?_ | refine New.alloc ?_ _ | refine New.setCell ?_ (by first | omega | (simp; omega) | (simp; done)) _ | (refine New.trans ?_ (by assumption))))⟩
    rw [HT.out, HB.out]
    rfl
  · have hb' : moveB 5 f t = false := by simpa using hb
    have HT := Lib.hid (show moveT f t = ⟨#[]⟩ from if_neg hb)
    have HB := Lib.hid hb'; clear hb hb'
    go_enter Tryd.func18, Tryd.ntmps18
    go_wp2_with fail
    refine (isMoveAmong_any _ 5 f t (by omega)).mono ?_
    rw [HB.out]
    rintro e w1 ⟨rfl, n1⟩
    go_wp2
    go_ret2
    refine ⟨?_, (by repeat (first | with_reducible exact New.refl _ | with_reducible assumption | refine New.drewN ?_ _ | refine New.drew ?_ | refine New.alloc ?_ _ | refine New.setCell ?_ (by first | omega | (simp; omega) | (simp; done)) _ | (refine New.trans ?_ (by assumption))))⟩
    rw [HT.out, HB.out]
    rfl
end Go.Proofs.YtkonhflamnekcaaDoor
