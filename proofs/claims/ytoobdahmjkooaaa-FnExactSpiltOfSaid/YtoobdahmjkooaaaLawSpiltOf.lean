/- The law of SpiltOf: its walk. -/
import Derived.Test.YtoobdahmjkooaaaAll
import Derived.Test.YtoobdahmjkooaaaRunS
import Derived.Test.YtoobdahmjkooaaaRunI
import Derived.Deep.RegionHeld3
import Derived.Deep.DeepCutAuto
namespace Go.Proofs.Ytoobdahmjkooaaa
open Go.RowKit

set_option maxRecDepth 100000 in
set_option maxHeartbeats 20000000 in
theorem law_SpiltOf (w : World) (x0_0 : Int) (x0_1 : Int) (x0_2 : Int) (x0_3 : Int) (x1_0 : Int) (x1_1 : Bool) (a2 : Option Addr) (n2 c2 : Nat) (l2 : List Int) (h2 : Ints w a2 n2 c2 l2) :
    Calls Try.prog 8 #[.agg #[.int .i64 x0_0, .int .i64 x0_1, .int .i64 x0_2, .int .i64 x0_3], .agg #[.int .i64 x1_0, .bool x1_1], .slice a2 n2 c2] w fun e w' => e = .returned (.bool true) ∧ New w w' := by
  have HA2 := Lib.hid h2; clear h2
  have qA2 := HA2.out.2.2.1
  go_enter Try.func8, Try.ntmps8
  by_cases hn2 : 1048576 < (n2 : Int)
  · go_wp2
    go_ret
    exact ⟨rfl, (by repeat (first | with_reducible exact New.refl _ | with_reducible assumption | refine New.drewN ?_ _ | refine New.drew ?_ | refine New.alloc ?_ _ | refine New.setCell ?_ (by first | omega | (simp; omega) | (simp; done)) _ | (refine New.trans ?_ (by assumption))))⟩
  · replace hn2 : n2 ≤ 1048576 := by omega
    go_upto_region 3 with fail
    obtain ⟨v0, hv0⟩ : ∃ v, v = ((w.alloc (.cells #[.int .i64 x0_0, .int .i64 x0_1, .int .i64 x0_2, .int .i64 x0_3] 23)).alloc (.cells #[.int .i64 x1_0, .bool x1_1] 29)) := ⟨_, rfl⟩
    rw [← hv0]
    have b0_0_v0 : v0.cell? ⟨w.heap.size, 0, none⟩ = some (.int .i64 x0_0) := by rw [hv0]; simp [go_sem]
    have b0_1_v0 : v0.cell? ⟨w.heap.size, 1, none⟩ = some (.int .i64 x0_1) := by rw [hv0]; simp [go_sem]
    have b0_2_v0 : v0.cell? ⟨w.heap.size, 2, none⟩ = some (.int .i64 x0_2) := by rw [hv0]; simp [go_sem]
    have b0_3_v0 : v0.cell? ⟨w.heap.size, 3, none⟩ = some (.int .i64 x0_3) := by rw [hv0]; simp [go_sem]
    have b1_0_v0 : v0.cell? ⟨w.heap.size + 1, 0, none⟩ = some (.int .i64 x1_0) := by rw [hv0]; simp [go_sem]
    have b1_1_v0 : v0.cell? ⟨w.heap.size + 1, 1, none⟩ = some (.bool x1_1) := by rw [hv0]; simp [go_sem]
    have K0 := Lib.hid (show New w v0 by rw [hv0]; exact (by repeat (first | with_reducible exact New.refl _ | with_reducible assumption | refine New.drewN ?_ _ | refine New.drew ?_ | refine New.alloc ?_ _ | refine New.setCell ?_ (by first | omega | (simp; omega) | (simp; done)) _ | (refine New.trans ?_ (by assumption)))))
    have zv0 : w.heap.size + 1 < v0.heap.size := by rw [hv0]; simp
    clear hv0
    go_region_held3 (fun w' => w'.cell? ⟨w.heap.size, 0, none⟩ = some (.int .i64 x0_0) ∧ w'.cell? ⟨w.heap.size, 1, none⟩ = some (.int .i64 x0_1) ∧ w'.cell? ⟨w.heap.size, 2, none⟩ = some (.int .i64 x0_2) ∧ w'.cell? ⟨w.heap.size, 3, none⟩ = some (.int .i64 x0_3) ∧ w'.cell? ⟨w.heap.size + 1, 0, none⟩ = some (.int .i64 x1_0) ∧ w'.cell? ⟨w.heap.size + 1, 1, none⟩ = some (.bool x1_1))
      (first | exact ⟨b0_0_v0, b0_1_v0, b0_2_v0, b0_3_v0, b1_0_v0, b1_1_v0⟩ | exact ⟨b0_0_u1, b0_1_u1, b0_2_u1, b0_3_u1, b1_0_u1, b1_1_u1⟩ | exact ⟨b0_0_u2, b0_1_u2, b0_2_u2, b0_3_u2, b1_0_u2, b1_1_u2⟩ | exact ⟨b0_0_u3, b0_1_u3, b0_2_u3, b0_3_u3, b1_0_u3, b1_1_u3⟩ | exact ⟨b0_0_u4, b0_1_u4, b0_2_u4, b0_3_u4, b1_0_u4, b1_1_u4⟩ | fail)
      (first
        | (go_at_call 18; refine (toSiphon_any _ _ _ _ _).mono ?_; rintro e u1 ⟨rfl, n_u1⟩; (try replace n_u1 := New.undrew n_u1); have b0_0_u1 : u1.cell? ⟨w.heap.size, 0, none⟩ = some (.int .i64 x0_0) := n_u1.cell b0_0_v0; have b0_1_u1 : u1.cell? ⟨w.heap.size, 1, none⟩ = some (.int .i64 x0_1) := n_u1.cell b0_1_v0; have b0_2_u1 : u1.cell? ⟨w.heap.size, 2, none⟩ = some (.int .i64 x0_2) := n_u1.cell b0_2_v0; have b0_3_u1 : u1.cell? ⟨w.heap.size, 3, none⟩ = some (.int .i64 x0_3) := n_u1.cell b0_3_v0; have b1_0_u1 : u1.cell? ⟨w.heap.size + 1, 0, none⟩ = some (.int .i64 x1_0) := n_u1.cell b1_0_v0; have b1_1_u1 : u1.cell? ⟨w.heap.size + 1, 1, none⟩ = some (.bool x1_1) := n_u1.cell b1_1_v0; skip)
        | (go_at_call 21; refine (toLevel_any _ _ _).mono ?_; rintro e u2 ⟨rfl, n_u2⟩; (try replace n_u2 := New.undrew n_u2); have b0_0_u2 : u2.cell? ⟨w.heap.size, 0, none⟩ = some (.int .i64 x0_0) := n_u2.cell b0_0_u1; have b0_1_u2 : u2.cell? ⟨w.heap.size, 1, none⟩ = some (.int .i64 x0_1) := n_u2.cell b0_1_u1; have b0_2_u2 : u2.cell? ⟨w.heap.size, 2, none⟩ = some (.int .i64 x0_2) := n_u2.cell b0_2_u1; have b0_3_u2 : u2.cell? ⟨w.heap.size, 3, none⟩ = some (.int .i64 x0_3) := n_u2.cell b0_3_u1; have b1_0_u2 : u2.cell? ⟨w.heap.size + 1, 0, none⟩ = some (.int .i64 x1_0) := n_u2.cell b1_0_u1; have b1_1_u2 : u2.cell? ⟨w.heap.size + 1, 1, none⟩ = some (.bool x1_1) := n_u2.cell b1_1_u1; skip)
        | (go_at_call 27; refine (toIntS_any _ _ _ _ _ ((HA2.out.new K0.out).new (by repeat (first | with_reducible exact New.refl _ | with_reducible assumption | refine New.drewN ?_ _ | refine New.drew ?_ | refine New.alloc ?_ _ | refine New.setCell ?_ (by first | omega | (simp; omega) | (simp; done)) _ | (refine New.trans ?_ (by assumption))))) hn2).mono ?_; rintro e u3 ⟨x0a, x0c, rfl, oX0, n_u3⟩; (try replace n_u3 := New.undrew n_u3); have b0_0_u3 : u3.cell? ⟨w.heap.size, 0, none⟩ = some (.int .i64 x0_0) := n_u3.cell b0_0_u2; have b0_1_u3 : u3.cell? ⟨w.heap.size, 1, none⟩ = some (.int .i64 x0_1) := n_u3.cell b0_1_u2; have b0_2_u3 : u3.cell? ⟨w.heap.size, 2, none⟩ = some (.int .i64 x0_2) := n_u3.cell b0_2_u2; have b0_3_u3 : u3.cell? ⟨w.heap.size, 3, none⟩ = some (.int .i64 x0_3) := n_u3.cell b0_3_u2; have b1_0_u3 : u3.cell? ⟨w.heap.size + 1, 0, none⟩ = some (.int .i64 x1_0) := n_u3.cell b1_0_u2; have b1_1_u3 : u3.cell? ⟨w.heap.size + 1, 1, none⟩ = some (.bool x1_1) := n_u3.cell b1_1_u2; skip)
        | (go_at_call 37; refine (sSpiltOf_any _ _ _ _ _ _ _ _ _ _ _ (oX0.ints.new (by repeat (first | with_reducible exact New.refl _ | with_reducible assumption | refine New.drewN ?_ _ | refine New.drew ?_ | refine New.alloc ?_ _ | refine New.setCell ?_ (by first | omega | (simp; omega) | (simp; done)) _ | (refine New.trans ?_ (by assumption)))))).mono ?_; rintro e u4 ⟨rfl, n_u4⟩; (try replace n_u4 := New.undrew n_u4); have b0_0_u4 : u4.cell? ⟨w.heap.size, 0, none⟩ = some (.int .i64 x0_0) := n_u4.cell b0_0_u3; have b0_1_u4 : u4.cell? ⟨w.heap.size, 1, none⟩ = some (.int .i64 x0_1) := n_u4.cell b0_1_u3; have b0_2_u4 : u4.cell? ⟨w.heap.size, 2, none⟩ = some (.int .i64 x0_2) := n_u4.cell b0_2_u3; have b0_3_u4 : u4.cell? ⟨w.heap.size, 3, none⟩ = some (.int .i64 x0_3) := n_u4.cell b0_3_u3; have b1_0_u4 : u4.cell? ⟨w.heap.size + 1, 0, none⟩ = some (.int .i64 x1_0) := n_u4.cell b1_0_u3; have b1_1_u4 : u4.cell? ⟨w.heap.size + 1, 1, none⟩ = some (.bool x1_1) := n_u4.cell b1_1_u3; skip))
    have Ku1 := Lib.hid (show New v0 u1 from n_u1); clear n_u1
    have Ku2 := Lib.hid (show New u1 u2 from n_u2); clear n_u2
    have Ku3 := Lib.hid (show New u2 u3 from n_u3); clear n_u3
    have Ku4 := Lib.hid (show New u3 u4 from n_u4); clear n_u4
    clear b0_0_v0 b0_1_v0 b0_2_v0 b0_3_v0 b1_0_v0 b1_1_v0
    clear b0_0_u1 b0_1_u1 b0_2_u1 b0_3_u1 b1_0_u1 b1_1_u1
    clear b0_0_u2 b0_1_u2 b0_2_u2 b0_3_u2 b1_0_u2 b1_1_u2
    clear b0_0_u3 b0_1_u3 b0_2_u3 b0_3_u3 b1_0_u3 b1_1_u3
    have OX0 := Lib.hid oX0; clear oX0
    go_wp2_with fail
    refine (toIntS_any _ _ _ _ _ (HA2.out.new ((((K0.out.trans Ku1.out).trans Ku2.out).trans Ku3.out).trans Ku4.out)) hn2).mono ?_
    rintro e u5 ⟨x1a, x1c, rfl, oX1, n_u5⟩
    have b0_0_u5 : u5.cell? ⟨w.heap.size, 0, none⟩ = some (.int .i64 x0_0) := n_u5.cell b0_0_u4
    have b0_1_u5 : u5.cell? ⟨w.heap.size, 1, none⟩ = some (.int .i64 x0_1) := n_u5.cell b0_1_u4
    have b0_2_u5 : u5.cell? ⟨w.heap.size, 2, none⟩ = some (.int .i64 x0_2) := n_u5.cell b0_2_u4
    have b0_3_u5 : u5.cell? ⟨w.heap.size, 3, none⟩ = some (.int .i64 x0_3) := n_u5.cell b0_3_u4
    have b1_0_u5 : u5.cell? ⟨w.heap.size + 1, 0, none⟩ = some (.int .i64 x1_0) := n_u5.cell b1_0_u4
    have b1_1_u5 : u5.cell? ⟨w.heap.size + 1, 1, none⟩ = some (.bool x1_1) := n_u5.cell b1_1_u4
    have Ku5 := Lib.hid n_u5; clear n_u5
    clear b0_0_u4 b0_1_u4 b0_2_u4 b0_3_u4 b1_0_u4 b1_1_u4
    have OX1 := Lib.hid oX1; clear oX1
    go_upto_region 5 with fail
    go_region_held3 (fun w' => w'.cell? ⟨w.heap.size, 0, none⟩ = some (.int .i64 x0_0) ∧ w'.cell? ⟨w.heap.size, 1, none⟩ = some (.int .i64 x0_1) ∧ w'.cell? ⟨w.heap.size, 2, none⟩ = some (.int .i64 x0_2) ∧ w'.cell? ⟨w.heap.size, 3, none⟩ = some (.int .i64 x0_3) ∧ w'.cell? ⟨w.heap.size + 1, 0, none⟩ = some (.int .i64 x1_0) ∧ w'.cell? ⟨w.heap.size + 1, 1, none⟩ = some (.bool x1_1))
      (first | exact ⟨b0_0_u5, b0_1_u5, b0_2_u5, b0_3_u5, b1_0_u5, b1_1_u5⟩ | exact ⟨b0_0_u6, b0_1_u6, b0_2_u6, b0_3_u6, b1_0_u6, b1_1_u6⟩ | exact ⟨b0_0_u7, b0_1_u7, b0_2_u7, b0_3_u7, b1_0_u7, b1_1_u7⟩ | exact ⟨b0_0_u8, b0_1_u8, b0_2_u8, b0_3_u8, b1_0_u8, b1_1_u8⟩ | fail)
      (first
        | (go_at_call 18; refine (toSiphon_any _ _ _ _ _).mono ?_; rintro e u6 ⟨rfl, n_u6⟩; (try replace n_u6 := New.undrew n_u6); have b0_0_u6 : u6.cell? ⟨w.heap.size, 0, none⟩ = some (.int .i64 x0_0) := n_u6.cell b0_0_u5; have b0_1_u6 : u6.cell? ⟨w.heap.size, 1, none⟩ = some (.int .i64 x0_1) := n_u6.cell b0_1_u5; have b0_2_u6 : u6.cell? ⟨w.heap.size, 2, none⟩ = some (.int .i64 x0_2) := n_u6.cell b0_2_u5; have b0_3_u6 : u6.cell? ⟨w.heap.size, 3, none⟩ = some (.int .i64 x0_3) := n_u6.cell b0_3_u5; have b1_0_u6 : u6.cell? ⟨w.heap.size + 1, 0, none⟩ = some (.int .i64 x1_0) := n_u6.cell b1_0_u5; have b1_1_u6 : u6.cell? ⟨w.heap.size + 1, 1, none⟩ = some (.bool x1_1) := n_u6.cell b1_1_u5; skip)
        | (go_at_call 21; refine (toLevel_any _ _ _).mono ?_; rintro e u7 ⟨rfl, n_u7⟩; (try replace n_u7 := New.undrew n_u7); have b0_0_u7 : u7.cell? ⟨w.heap.size, 0, none⟩ = some (.int .i64 x0_0) := n_u7.cell b0_0_u6; have b0_1_u7 : u7.cell? ⟨w.heap.size, 1, none⟩ = some (.int .i64 x0_1) := n_u7.cell b0_1_u6; have b0_2_u7 : u7.cell? ⟨w.heap.size, 2, none⟩ = some (.int .i64 x0_2) := n_u7.cell b0_2_u6; have b0_3_u7 : u7.cell? ⟨w.heap.size, 3, none⟩ = some (.int .i64 x0_3) := n_u7.cell b0_3_u6; have b1_0_u7 : u7.cell? ⟨w.heap.size + 1, 0, none⟩ = some (.int .i64 x1_0) := n_u7.cell b1_0_u6; have b1_1_u7 : u7.cell? ⟨w.heap.size + 1, 1, none⟩ = some (.bool x1_1) := n_u7.cell b1_1_u6; skip)
        | (go_at_call 38; refine (iSpiltOf_any _ _ _ _ _ _ _ _ _ _ _ (OX1.out.ints.new (by repeat (first | with_reducible exact New.refl _ | with_reducible assumption | refine New.drewN ?_ _ | refine New.drew ?_ | refine New.alloc ?_ _ | refine New.setCell ?_ (by first | omega | (simp; omega) | (simp; done)) _ | (refine New.trans ?_ (by assumption)))))).mono ?_; rintro e u8 ⟨rfl, n_u8⟩; (try replace n_u8 := New.undrew n_u8); have b0_0_u8 : u8.cell? ⟨w.heap.size, 0, none⟩ = some (.int .i64 x0_0) := n_u8.cell b0_0_u7; have b0_1_u8 : u8.cell? ⟨w.heap.size, 1, none⟩ = some (.int .i64 x0_1) := n_u8.cell b0_1_u7; have b0_2_u8 : u8.cell? ⟨w.heap.size, 2, none⟩ = some (.int .i64 x0_2) := n_u8.cell b0_2_u7; have b0_3_u8 : u8.cell? ⟨w.heap.size, 3, none⟩ = some (.int .i64 x0_3) := n_u8.cell b0_3_u7; have b1_0_u8 : u8.cell? ⟨w.heap.size + 1, 0, none⟩ = some (.int .i64 x1_0) := n_u8.cell b1_0_u7; have b1_1_u8 : u8.cell? ⟨w.heap.size + 1, 1, none⟩ = some (.bool x1_1) := n_u8.cell b1_1_u7; skip))
    have Ku6 := Lib.hid (show New u5 u6 from n_u6); clear n_u6
    have Ku7 := Lib.hid (show New u6 u7 from n_u7); clear n_u7
    have Ku8 := Lib.hid (show New u7 u8 from n_u8); clear n_u8
    clear b0_0_u5 b0_1_u5 b0_2_u5 b0_3_u5 b1_0_u5 b1_1_u5
    clear b0_0_u6 b0_1_u6 b0_2_u6 b0_3_u6 b1_0_u6 b1_1_u6
    clear b0_0_u7 b0_1_u7 b0_2_u7 b0_3_u7 b1_0_u7 b1_1_u7
    go_wp2_with fail
    refine (toIntS_any _ _ _ _ _ (HA2.out.new ((((((((K0.out.trans Ku1.out).trans Ku2.out).trans Ku3.out).trans Ku4.out).trans Ku5.out).trans Ku6.out).trans Ku7.out).trans Ku8.out)) hn2).mono ?_
    rintro e u9 ⟨x2a, x2c, rfl, oX2, n_u9⟩
    have b0_0_u9 : u9.cell? ⟨w.heap.size, 0, none⟩ = some (.int .i64 x0_0) := n_u9.cell b0_0_u8
    have b0_1_u9 : u9.cell? ⟨w.heap.size, 1, none⟩ = some (.int .i64 x0_1) := n_u9.cell b0_1_u8
    have b0_2_u9 : u9.cell? ⟨w.heap.size, 2, none⟩ = some (.int .i64 x0_2) := n_u9.cell b0_2_u8
    have b0_3_u9 : u9.cell? ⟨w.heap.size, 3, none⟩ = some (.int .i64 x0_3) := n_u9.cell b0_3_u8
    have b1_0_u9 : u9.cell? ⟨w.heap.size + 1, 0, none⟩ = some (.int .i64 x1_0) := n_u9.cell b1_0_u8
    have b1_1_u9 : u9.cell? ⟨w.heap.size + 1, 1, none⟩ = some (.bool x1_1) := n_u9.cell b1_1_u8
    have Ku9 := Lib.hid n_u9; clear n_u9
    clear b0_0_u8 b0_1_u8 b0_2_u8 b0_3_u8 b1_0_u8 b1_1_u8
    have OX2 := Lib.hid oX2; clear oX2
    go_wp2_with fail
    refine (eqIntS_same _ _ _ _ _ _ _ _ (OX1.out.new (((Ku6.out.trans Ku7.out).trans Ku8.out).trans Ku9.out)).ints OX2.out.ints).mono ?_
    rintro e u10 ⟨rfl, n_u10⟩
    have b0_0_u10 : u10.cell? ⟨w.heap.size, 0, none⟩ = some (.int .i64 x0_0) := n_u10.cell b0_0_u9
    have b0_1_u10 : u10.cell? ⟨w.heap.size, 1, none⟩ = some (.int .i64 x0_1) := n_u10.cell b0_1_u9
    have b0_2_u10 : u10.cell? ⟨w.heap.size, 2, none⟩ = some (.int .i64 x0_2) := n_u10.cell b0_2_u9
    have b0_3_u10 : u10.cell? ⟨w.heap.size, 3, none⟩ = some (.int .i64 x0_3) := n_u10.cell b0_3_u9
    have b1_0_u10 : u10.cell? ⟨w.heap.size + 1, 0, none⟩ = some (.int .i64 x1_0) := n_u10.cell b1_0_u9
    have b1_1_u10 : u10.cell? ⟨w.heap.size + 1, 1, none⟩ = some (.bool x1_1) := n_u10.cell b1_1_u9
    have Ku10 := Lib.hid n_u10; clear n_u10
    clear b0_0_u9 b0_1_u9 b0_2_u9 b0_3_u9 b1_0_u9 b1_1_u9
    go_wp2
    go_ret
    exact ⟨rfl, ((((((((((K0.out.trans Ku1.out).trans Ku2.out).trans Ku3.out).trans Ku4.out).trans Ku5.out).trans Ku6.out).trans Ku7.out).trans Ku8.out).trans Ku9.out).trans Ku10.out)⟩
end Go.Proofs.Ytoobdahmjkooaaa
