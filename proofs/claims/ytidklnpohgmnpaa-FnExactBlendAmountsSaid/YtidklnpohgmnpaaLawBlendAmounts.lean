/- The law of BlendAmounts: its walk. -/
import Derived.Test.YtidklnpohgmnpaaBlendS
import Derived.Test.YtidklnpohgmnpaaRowRatio
import Derived.Test.YtidklnpohgmnpaaOpenTR
import Derived.Deep.RegionHeld3
import Derived.Deep.DeepCutAuto
namespace Go.Proofs.Ytidklnpohgmnpaa
open Go.RowKit

set_option maxRecDepth 100000 in
set_option maxHeartbeats 20000000 in
theorem law_BlendAmounts (w : World) (x0_0 : Int) (x0_1 : Int) (x1_0 : Int) (x1_1 : Int) (x2_0 : Int) (x2_1 : Int) :
    Calls Try.prog 12 #[.agg #[.int .i64 x0_0, .int .i64 x0_1], .agg #[.int .i64 x1_0, .int .i64 x1_1], .agg #[.int .i64 x2_0, .int .i64 x2_1]] w fun e w' => e = .returned (.bool true) ∧ New w w' := by
  go_enter Try.func12, Try.ntmps12
  go_upto_region 1 with fail
  obtain ⟨v0, hv0⟩ : ∃ v, v = (((w.alloc (.cells #[.int .i64 x0_0, .int .i64 x0_1] 23)).alloc (.cells #[.int .i64 x1_0, .int .i64 x1_1] 23)).alloc (.cells #[.int .i64 x2_0, .int .i64 x2_1] 23)) := ⟨_, rfl⟩
  rw [← hv0]
  have b0_0_v0 : v0.cell? ⟨w.heap.size, 0, none⟩ = some (.int .i64 x0_0) := by rw [hv0]; simp [go_sem]
  have b0_1_v0 : v0.cell? ⟨w.heap.size, 1, none⟩ = some (.int .i64 x0_1) := by rw [hv0]; simp [go_sem]
  have b1_0_v0 : v0.cell? ⟨w.heap.size + 1, 0, none⟩ = some (.int .i64 x1_0) := by rw [hv0]; simp [go_sem]
  have b1_1_v0 : v0.cell? ⟨w.heap.size + 1, 1, none⟩ = some (.int .i64 x1_1) := by rw [hv0]; simp [go_sem]
  have b2_0_v0 : v0.cell? ⟨w.heap.size + 1 + 1, 0, none⟩ = some (.int .i64 x2_0) := by rw [hv0]; simp [go_sem]
  have b2_1_v0 : v0.cell? ⟨w.heap.size + 1 + 1, 1, none⟩ = some (.int .i64 x2_1) := by rw [hv0]; simp [go_sem]
  have K0 := Lib.hid (show New w v0 by rw [hv0]; exact (by repeat (first | with_reducible exact New.refl _ | with_reducible assumption | refine New.drewN ?_ _ | refine New.drew ?_ | refine New.alloc ?_ _ | refine New.setCell ?_ (by first | omega | (simp; omega) | (simp; done)) _ | (refine New.trans ?_ (by assumption)))))
  have zv0 : w.heap.size + 1 + 1 < v0.heap.size := by rw [hv0]; simp
  clear hv0
  go_region_held3 (fun w' => w'.cell? ⟨w.heap.size, 0, none⟩ = some (.int .i64 x0_0) ∧ w'.cell? ⟨w.heap.size, 1, none⟩ = some (.int .i64 x0_1) ∧ w'.cell? ⟨w.heap.size + 1, 0, none⟩ = some (.int .i64 x1_0) ∧ w'.cell? ⟨w.heap.size + 1, 1, none⟩ = some (.int .i64 x1_1) ∧ w'.cell? ⟨w.heap.size + 1 + 1, 0, none⟩ = some (.int .i64 x2_0) ∧ w'.cell? ⟨w.heap.size + 1 + 1, 1, none⟩ = some (.int .i64 x2_1))
    (first | exact ⟨b0_0_v0, b0_1_v0, b1_0_v0, b1_1_v0, b2_0_v0, b2_1_v0⟩ | exact ⟨b0_0_u1, b0_1_u1, b1_0_u1, b1_1_u1, b2_0_u1, b2_1_u1⟩ | exact ⟨b0_0_u2, b0_1_u2, b1_0_u2, b1_1_u2, b2_0_u2, b2_1_u2⟩ | exact ⟨b0_0_u3, b0_1_u3, b1_0_u3, b1_1_u3, b2_0_u3, b2_1_u3⟩ | exact ⟨b0_0_u4, b0_1_u4, b1_0_u4, b1_1_u4, b2_0_u4, b2_1_u4⟩ | fail)
    (first
      | (go_at_call 14; refine (toRatio_one _ _ _).mono ?_; rintro e u1 ⟨rfl, n_u1⟩; (try replace n_u1 := New.undrew n_u1); have b0_0_u1 : u1.cell? ⟨w.heap.size, 0, none⟩ = some (.int .i64 x0_0) := n_u1.cell b0_0_v0; have b0_1_u1 : u1.cell? ⟨w.heap.size, 1, none⟩ = some (.int .i64 x0_1) := n_u1.cell b0_1_v0; have b1_0_u1 : u1.cell? ⟨w.heap.size + 1, 0, none⟩ = some (.int .i64 x1_0) := n_u1.cell b1_0_v0; have b1_1_u1 : u1.cell? ⟨w.heap.size + 1, 1, none⟩ = some (.int .i64 x1_1) := n_u1.cell b1_1_v0; have b2_0_u1 : u1.cell? ⟨w.heap.size + 1 + 1, 0, none⟩ = some (.int .i64 x2_0) := n_u1.cell b2_0_v0; have b2_1_u1 : u1.cell? ⟨w.heap.size + 1 + 1, 1, none⟩ = some (.int .i64 x2_1) := n_u1.cell b2_1_v0; skip)
      | (go_at_call 14; refine (toRatio_one _ _ _).mono ?_; rintro e u2 ⟨rfl, n_u2⟩; (try replace n_u2 := New.undrew n_u2); have b0_0_u2 : u2.cell? ⟨w.heap.size, 0, none⟩ = some (.int .i64 x0_0) := n_u2.cell b0_0_u1; have b0_1_u2 : u2.cell? ⟨w.heap.size, 1, none⟩ = some (.int .i64 x0_1) := n_u2.cell b0_1_u1; have b1_0_u2 : u2.cell? ⟨w.heap.size + 1, 0, none⟩ = some (.int .i64 x1_0) := n_u2.cell b1_0_u1; have b1_1_u2 : u2.cell? ⟨w.heap.size + 1, 1, none⟩ = some (.int .i64 x1_1) := n_u2.cell b1_1_u1; have b2_0_u2 : u2.cell? ⟨w.heap.size + 1 + 1, 0, none⟩ = some (.int .i64 x2_0) := n_u2.cell b2_0_u1; have b2_1_u2 : u2.cell? ⟨w.heap.size + 1 + 1, 1, none⟩ = some (.int .i64 x2_1) := n_u2.cell b2_1_u1; skip)
      | (go_at_call 14; refine (toRatio_one _ _ _).mono ?_; rintro e u3 ⟨rfl, n_u3⟩; (try replace n_u3 := New.undrew n_u3); have b0_0_u3 : u3.cell? ⟨w.heap.size, 0, none⟩ = some (.int .i64 x0_0) := n_u3.cell b0_0_u2; have b0_1_u3 : u3.cell? ⟨w.heap.size, 1, none⟩ = some (.int .i64 x0_1) := n_u3.cell b0_1_u2; have b1_0_u3 : u3.cell? ⟨w.heap.size + 1, 0, none⟩ = some (.int .i64 x1_0) := n_u3.cell b1_0_u2; have b1_1_u3 : u3.cell? ⟨w.heap.size + 1, 1, none⟩ = some (.int .i64 x1_1) := n_u3.cell b1_1_u2; have b2_0_u3 : u3.cell? ⟨w.heap.size + 1 + 1, 0, none⟩ = some (.int .i64 x2_0) := n_u3.cell b2_0_u2; have b2_1_u3 : u3.cell? ⟨w.heap.size + 1 + 1, 1, none⟩ = some (.int .i64 x2_1) := n_u3.cell b2_1_u2; skip)
      | (go_at_call 40; refine (sBlendAmounts_any _ _ _ _ _ _ _ ).mono ?_; rintro e u4 ⟨rfl, n_u4⟩; (try replace n_u4 := New.undrew n_u4); have b0_0_u4 : u4.cell? ⟨w.heap.size, 0, none⟩ = some (.int .i64 x0_0) := n_u4.cell b0_0_u3; have b0_1_u4 : u4.cell? ⟨w.heap.size, 1, none⟩ = some (.int .i64 x0_1) := n_u4.cell b0_1_u3; have b1_0_u4 : u4.cell? ⟨w.heap.size + 1, 0, none⟩ = some (.int .i64 x1_0) := n_u4.cell b1_0_u3; have b1_1_u4 : u4.cell? ⟨w.heap.size + 1, 1, none⟩ = some (.int .i64 x1_1) := n_u4.cell b1_1_u3; have b2_0_u4 : u4.cell? ⟨w.heap.size + 1 + 1, 0, none⟩ = some (.int .i64 x2_0) := n_u4.cell b2_0_u3; have b2_1_u4 : u4.cell? ⟨w.heap.size + 1 + 1, 1, none⟩ = some (.int .i64 x2_1) := n_u4.cell b2_1_u3; skip))
  have Ku1 := Lib.hid (show New v0 u1 from n_u1); clear n_u1
  have Ku2 := Lib.hid (show New u1 u2 from n_u2); clear n_u2
  have Ku3 := Lib.hid (show New u2 u3 from n_u3); clear n_u3
  have Ku4 := Lib.hid (show New u3 u4 from n_u4); clear n_u4
  clear b0_0_v0 b0_1_v0 b1_0_v0 b1_1_v0 b2_0_v0 b2_1_v0
  clear b0_0_u1 b0_1_u1 b1_0_u1 b1_1_u1 b2_0_u1 b2_1_u1
  clear b0_0_u2 b0_1_u2 b1_0_u2 b1_1_u2 b2_0_u2 b2_1_u2
  clear b0_0_u3 b0_1_u3 b1_0_u3 b1_1_u3 b2_0_u3 b2_1_u3
  go_upto_region 2 with fail
  go_region_held3 (fun w' => w'.cell? ⟨w.heap.size, 0, none⟩ = some (.int .i64 x0_0) ∧ w'.cell? ⟨w.heap.size, 1, none⟩ = some (.int .i64 x0_1) ∧ w'.cell? ⟨w.heap.size + 1, 0, none⟩ = some (.int .i64 x1_0) ∧ w'.cell? ⟨w.heap.size + 1, 1, none⟩ = some (.int .i64 x1_1) ∧ w'.cell? ⟨w.heap.size + 1 + 1, 0, none⟩ = some (.int .i64 x2_0) ∧ w'.cell? ⟨w.heap.size + 1 + 1, 1, none⟩ = some (.int .i64 x2_1))
    (first | exact ⟨b0_0_u4, b0_1_u4, b1_0_u4, b1_1_u4, b2_0_u4, b2_1_u4⟩ | exact ⟨b0_0_u5, b0_1_u5, b1_0_u5, b1_1_u5, b2_0_u5, b2_1_u5⟩ | exact ⟨b0_0_u6, b0_1_u6, b1_0_u6, b1_1_u6, b2_0_u6, b2_1_u6⟩ | exact ⟨b0_0_u7, b0_1_u7, b1_0_u7, b1_1_u7, b2_0_u7, b2_1_u7⟩ | exact ⟨b0_0_u8, b0_1_u8, b1_0_u8, b1_1_u8, b2_0_u8, b2_1_u8⟩ | fail)
    (first
      | (go_at_call 14; refine (toRatio_one _ _ _).mono ?_; rintro e u5 ⟨rfl, n_u5⟩; (try replace n_u5 := New.undrew n_u5); have b0_0_u5 : u5.cell? ⟨w.heap.size, 0, none⟩ = some (.int .i64 x0_0) := n_u5.cell b0_0_u4; have b0_1_u5 : u5.cell? ⟨w.heap.size, 1, none⟩ = some (.int .i64 x0_1) := n_u5.cell b0_1_u4; have b1_0_u5 : u5.cell? ⟨w.heap.size + 1, 0, none⟩ = some (.int .i64 x1_0) := n_u5.cell b1_0_u4; have b1_1_u5 : u5.cell? ⟨w.heap.size + 1, 1, none⟩ = some (.int .i64 x1_1) := n_u5.cell b1_1_u4; have b2_0_u5 : u5.cell? ⟨w.heap.size + 1 + 1, 0, none⟩ = some (.int .i64 x2_0) := n_u5.cell b2_0_u4; have b2_1_u5 : u5.cell? ⟨w.heap.size + 1 + 1, 1, none⟩ = some (.int .i64 x2_1) := n_u5.cell b2_1_u4; skip)
      | (go_at_call 14; refine (toRatio_one _ _ _).mono ?_; rintro e u6 ⟨rfl, n_u6⟩; (try replace n_u6 := New.undrew n_u6); have b0_0_u6 : u6.cell? ⟨w.heap.size, 0, none⟩ = some (.int .i64 x0_0) := n_u6.cell b0_0_u5; have b0_1_u6 : u6.cell? ⟨w.heap.size, 1, none⟩ = some (.int .i64 x0_1) := n_u6.cell b0_1_u5; have b1_0_u6 : u6.cell? ⟨w.heap.size + 1, 0, none⟩ = some (.int .i64 x1_0) := n_u6.cell b1_0_u5; have b1_1_u6 : u6.cell? ⟨w.heap.size + 1, 1, none⟩ = some (.int .i64 x1_1) := n_u6.cell b1_1_u5; have b2_0_u6 : u6.cell? ⟨w.heap.size + 1 + 1, 0, none⟩ = some (.int .i64 x2_0) := n_u6.cell b2_0_u5; have b2_1_u6 : u6.cell? ⟨w.heap.size + 1 + 1, 1, none⟩ = some (.int .i64 x2_1) := n_u6.cell b2_1_u5; skip)
      | (go_at_call 14; refine (toRatio_one _ _ _).mono ?_; rintro e u7 ⟨rfl, n_u7⟩; (try replace n_u7 := New.undrew n_u7); have b0_0_u7 : u7.cell? ⟨w.heap.size, 0, none⟩ = some (.int .i64 x0_0) := n_u7.cell b0_0_u6; have b0_1_u7 : u7.cell? ⟨w.heap.size, 1, none⟩ = some (.int .i64 x0_1) := n_u7.cell b0_1_u6; have b1_0_u7 : u7.cell? ⟨w.heap.size + 1, 0, none⟩ = some (.int .i64 x1_0) := n_u7.cell b1_0_u6; have b1_1_u7 : u7.cell? ⟨w.heap.size + 1, 1, none⟩ = some (.int .i64 x1_1) := n_u7.cell b1_1_u6; have b2_0_u7 : u7.cell? ⟨w.heap.size + 1 + 1, 0, none⟩ = some (.int .i64 x2_0) := n_u7.cell b2_0_u6; have b2_1_u7 : u7.cell? ⟨w.heap.size + 1 + 1, 1, none⟩ = some (.int .i64 x2_1) := n_u7.cell b2_1_u6; skip)
      | (go_at_call 41; refine (iBlendAmounts_any _ _ _ _ _ _ _ ).mono ?_; rintro e u8 ⟨rfl, n_u8⟩; (try replace n_u8 := New.undrew n_u8); have b0_0_u8 : u8.cell? ⟨w.heap.size, 0, none⟩ = some (.int .i64 x0_0) := n_u8.cell b0_0_u7; have b0_1_u8 : u8.cell? ⟨w.heap.size, 1, none⟩ = some (.int .i64 x0_1) := n_u8.cell b0_1_u7; have b1_0_u8 : u8.cell? ⟨w.heap.size + 1, 0, none⟩ = some (.int .i64 x1_0) := n_u8.cell b1_0_u7; have b1_1_u8 : u8.cell? ⟨w.heap.size + 1, 1, none⟩ = some (.int .i64 x1_1) := n_u8.cell b1_1_u7; have b2_0_u8 : u8.cell? ⟨w.heap.size + 1 + 1, 0, none⟩ = some (.int .i64 x2_0) := n_u8.cell b2_0_u7; have b2_1_u8 : u8.cell? ⟨w.heap.size + 1 + 1, 1, none⟩ = some (.int .i64 x2_1) := n_u8.cell b2_1_u7; skip))
  have Ku5 := Lib.hid (show New u4 u5 from n_u5); clear n_u5
  have Ku6 := Lib.hid (show New u5 u6 from n_u6); clear n_u6
  have Ku7 := Lib.hid (show New u6 u7 from n_u7); clear n_u7
  have Ku8 := Lib.hid (show New u7 u8 from n_u8); clear n_u8
  clear b0_0_u4 b0_1_u4 b1_0_u4 b1_1_u4 b2_0_u4 b2_1_u4
  clear b0_0_u5 b0_1_u5 b1_0_u5 b1_1_u5 b2_0_u5 b2_1_u5
  clear b0_0_u6 b0_1_u6 b1_0_u6 b1_1_u6 b2_0_u6 b2_1_u6
  clear b0_0_u7 b0_1_u7 b1_0_u7 b1_1_u7 b2_0_u7 b2_1_u7
  go_wp2
  go_ret
  exact ⟨rfl, ((((((((K0.out.trans Ku1.out).trans Ku2.out).trans Ku3.out).trans Ku4.out).trans Ku5.out).trans Ku6.out).trans Ku7.out).trans Ku8.out)⟩
end Go.Proofs.Ytidklnpohgmnpaa
