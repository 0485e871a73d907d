/- The law of LevelsOf: its walk. -/
import Derived.Test.YtoobdahmjkooaaaAll
import Derived.Test.YtoobdahmjkooaaaRunS
import Derived.Test.YtoobdahmjkooaaaRunI
import Derived.Deep.RegionHeld3
import Derived.Deep.DeepCutAuto
namespace Go.Proofs.Ytoobdahmjkooaaa
open Go.RowKit

set_option maxRecDepth 100000 in
set_option maxHeartbeats 20000000 in
theorem law_LevelsOf (w : World) (x0_0 : Int) (x0_1 : Int) (x0_2 : Int) (x0_3 : Int) (x1_0 : Int) (x1_1 : Bool) (a2 : Option Addr) (n2 c2 : Nat) (l2 : List Int) (h2 : Ints w a2 n2 c2 l2) (hR0 : (levsM x0_0 x0_1 x0_2 x0_3 x1_0 x1_1 l2).length ≤ 1048576) :
    Calls Try.prog 7 #[.agg #[.int .i64 x0_0, .int .i64 x0_1, .int .i64 x0_2, .int .i64 x0_3], .agg #[.int .i64 x1_0, .bool x1_1], .slice a2 n2 c2] w fun e w' => e = .returned (.bool true) ∧ New w w' := by
  have HA2 := Lib.hid h2; clear h2
  have LR0 := Lib.hid hR0; clear hR0
  have qA2 := HA2.out.2.2.1
  go_enter Try.func7, Try.ntmps7
  by_cases hn2 : 1048576 < (n2 : Int)
  · go_wp2
    go_ret
    exact ⟨rfl, (by repeat (first | with_reducible exact New.refl _ | with_reducible assumption | refine New.drewN ?_ _ | refine New.drew ?_ | refine New.alloc ?_ _ | refine New.setCell ?_ (by first | omega | (simp; omega) | (simp; done)) _ | (refine New.trans ?_ (by assumption))))⟩
  · replace hn2 : n2 ≤ 1048576 := by omega
    go_upto_region 3 with fail
    obtain ⟨v0, hv0⟩ : ∃ v, v = ((w.alloc (.cells #[.int .i64 x0_0, .int .i64 x0_1, .int .i64 x0_2, .int .i64 x0_3] 23)).alloc (.cells #[.int .i64 x1_0, .bool x1_1] 29)) := ⟨_, rfl⟩
    rw [← hv0]
    have b0_0_v0 : v0.cell? ⟨w.heap.size, 0, none⟩ = some (.int .i64 x0_0) := by rw [hv0]; simp [go_sem]
    have b0_1_v0 : v0.cell? ⟨w.heap.size, 1, none⟩ = some (.int .i64 x0_1) := by rw [hv0]; simp [go_sem]
    have b0_2_v0 : v0.cell? ⟨w.heap.size, 2, none⟩ = some (.int .i64 x0_2) := by rw [hv0]; simp [go_sem]
    have b0_3_v0 : v0.cell? ⟨w.heap.size, 3, none⟩ = some (.int .i64 x0_3) := by rw [hv0]; simp [go_sem]
    have b1_0_v0 : v0.cell? ⟨w.heap.size + 1, 0, none⟩ = some (.int .i64 x1_0) := by rw [hv0]; simp [go_sem]
    have b1_1_v0 : v0.cell? ⟨w.heap.size + 1, 1, none⟩ = some (.bool x1_1) := by rw [hv0]; simp [go_sem]
    have K0 := Lib.hid (show New w v0 by rw [hv0]; exact (by repeat (first | with_reducible exact New.refl _ | with_reducible assumption | refine New.drewN ?_ _ | refine New.drew ?_ | refine New.alloc ?_ _ | refine New.setCell ?_ (by first | omega | (simp; omega) | (simp; done)) _ | (refine New.trans ?_ (by assumption)))))
    have zv0 : w.heap.size + 1 < v0.heap.size := by rw [hv0]; simp
    clear hv0
    go_region_held3 (fun w' => w'.cell? ⟨w.heap.size, 0, none⟩ = some (.int .i64 x0_0) ∧ w'.cell? ⟨w.heap.size, 1, none⟩ = some (.int .i64 x0_1) ∧ w'.cell? ⟨w.heap.size, 2, none⟩ = some (.int .i64 x0_2) ∧ w'.cell? ⟨w.heap.size, 3, none⟩ = some (.int .i64 x0_3) ∧ w'.cell? ⟨w.heap.size + 1, 0, none⟩ = some (.int .i64 x1_0) ∧ w'.cell? ⟨w.heap.size + 1, 1, none⟩ = some (.bool x1_1))
      (first | exact ⟨b0_0_v0, b0_1_v0, b0_2_v0, b0_3_v0, b1_0_v0, b1_1_v0⟩ | exact ⟨b0_0_u1, b0_1_u1, b0_2_u1, b0_3_u1, b1_0_u1, b1_1_u1⟩ | exact ⟨b0_0_u2, b0_1_u2, b0_2_u2, b0_3_u2, b1_0_u2, b1_1_u2⟩ | exact ⟨b0_0_u3, b0_1_u3, b0_2_u3, b0_3_u3, b1_0_u3, b1_1_u3⟩ | exact ⟨b0_0_u4, b0_1_u4, b0_2_u4, b0_3_u4, b1_0_u4, b1_1_u4⟩ | fail)
      (first
        | (go_at_call 18; refine (toSiphon_any _ _ _ _ _).mono ?_; rintro e u1 ⟨rfl, n_u1⟩; (try replace n_u1 := New.undrew n_u1); have b0_0_u1 : u1.cell? ⟨w.heap.size, 0, none⟩ = some (.int .i64 x0_0) := n_u1.cell b0_0_v0; have b0_1_u1 : u1.cell? ⟨w.heap.size, 1, none⟩ = some (.int .i64 x0_1) := n_u1.cell b0_1_v0; have b0_2_u1 : u1.cell? ⟨w.heap.size, 2, none⟩ = some (.int .i64 x0_2) := n_u1.cell b0_2_v0; have b0_3_u1 : u1.cell? ⟨w.heap.size, 3, none⟩ = some (.int .i64 x0_3) := n_u1.cell b0_3_v0; have b1_0_u1 : u1.cell? ⟨w.heap.size + 1, 0, none⟩ = some (.int .i64 x1_0) := n_u1.cell b1_0_v0; have b1_1_u1 : u1.cell? ⟨w.heap.size + 1, 1, none⟩ = some (.bool x1_1) := n_u1.cell b1_1_v0; skip)
        | (go_at_call 21; refine (toLevel_any _ _ _).mono ?_; rintro e u2 ⟨rfl, n_u2⟩; (try replace n_u2 := New.undrew n_u2); have b0_0_u2 : u2.cell? ⟨w.heap.size, 0, none⟩ = some (.int .i64 x0_0) := n_u2.cell b0_0_u1; have b0_1_u2 : u2.cell? ⟨w.heap.size, 1, none⟩ = some (.int .i64 x0_1) := n_u2.cell b0_1_u1; have b0_2_u2 : u2.cell? ⟨w.heap.size, 2, none⟩ = some (.int .i64 x0_2) := n_u2.cell b0_2_u1; have b0_3_u2 : u2.cell? ⟨w.heap.size, 3, none⟩ = some (.int .i64 x0_3) := n_u2.cell b0_3_u1; have b1_0_u2 : u2.cell? ⟨w.heap.size + 1, 0, none⟩ = some (.int .i64 x1_0) := n_u2.cell b1_0_u1; have b1_1_u2 : u2.cell? ⟨w.heap.size + 1, 1, none⟩ = some (.bool x1_1) := n_u2.cell b1_1_u1; skip)
        | (go_at_call 27; refine (toIntS_any _ _ _ _ _ ((HA2.out.new K0.out).new (by repeat (first | with_reducible exact New.refl _ | with_reducible assumption | refine New.drewN ?_ _ | refine New.drew ?_ | refine New.alloc ?_ _ | refine New.setCell ?_ (by first | omega | (simp; omega) | (simp; done)) _ | (refine New.trans ?_ (by assumption))))) hn2).mono ?_; rintro e u3 ⟨x0a, x0c, rfl, oX0, n_u3⟩; (try replace n_u3 := New.undrew n_u3); have b0_0_u3 : u3.cell? ⟨w.heap.size, 0, none⟩ = some (.int .i64 x0_0) := n_u3.cell b0_0_u2; have b0_1_u3 : u3.cell? ⟨w.heap.size, 1, none⟩ = some (.int .i64 x0_1) := n_u3.cell b0_1_u2; have b0_2_u3 : u3.cell? ⟨w.heap.size, 2, none⟩ = some (.int .i64 x0_2) := n_u3.cell b0_2_u2; have b0_3_u3 : u3.cell? ⟨w.heap.size, 3, none⟩ = some (.int .i64 x0_3) := n_u3.cell b0_3_u2; have b1_0_u3 : u3.cell? ⟨w.heap.size + 1, 0, none⟩ = some (.int .i64 x1_0) := n_u3.cell b1_0_u2; have b1_1_u3 : u3.cell? ⟨w.heap.size + 1, 1, none⟩ = some (.bool x1_1) := n_u3.cell b1_1_u2; skip)
        | (go_at_call 32; refine (sLevelsOf_any _ _ _ _ _ _ _ _ _ _ _ (oX0.ints.new (by repeat (first | with_reducible exact New.refl _ | with_reducible assumption | refine New.drewN ?_ _ | refine New.drew ?_ | refine New.alloc ?_ _ | refine New.setCell ?_ (by first | omega | (simp; omega) | (simp; done)) _ | (refine New.trans ?_ (by assumption)))))).mono ?_; rintro e u4 ⟨p0a, p0n, p0c, rfl, op0, n_u4⟩; (try replace n_u4 := New.undrew n_u4); have b0_0_u4 : u4.cell? ⟨w.heap.size, 0, none⟩ = some (.int .i64 x0_0) := n_u4.cell b0_0_u3; have b0_1_u4 : u4.cell? ⟨w.heap.size, 1, none⟩ = some (.int .i64 x0_1) := n_u4.cell b0_1_u3; have b0_2_u4 : u4.cell? ⟨w.heap.size, 2, none⟩ = some (.int .i64 x0_2) := n_u4.cell b0_2_u3; have b0_3_u4 : u4.cell? ⟨w.heap.size, 3, none⟩ = some (.int .i64 x0_3) := n_u4.cell b0_3_u3; have b1_0_u4 : u4.cell? ⟨w.heap.size + 1, 0, none⟩ = some (.int .i64 x1_0) := n_u4.cell b1_0_u3; have b1_1_u4 : u4.cell? ⟨w.heap.size + 1, 1, none⟩ = some (.bool x1_1) := n_u4.cell b1_1_u3; skip))
    have Ku1 := Lib.hid (show New v0 u1 from n_u1); clear n_u1
    have Ku2 := Lib.hid (show New u1 u2 from n_u2); clear n_u2
    have Ku3 := Lib.hid (show New u2 u3 from n_u3); clear n_u3
    have Ku4 := Lib.hid (show New u3 u4 from n_u4); clear n_u4
    clear b0_0_v0 b0_1_v0 b0_2_v0 b0_3_v0 b1_0_v0 b1_1_v0
    clear b0_0_u1 b0_1_u1 b0_2_u1 b0_3_u1 b1_0_u1 b1_1_u1
    clear b0_0_u2 b0_1_u2 b0_2_u2 b0_3_u2 b1_0_u2 b1_1_u2
    clear b0_0_u3 b0_1_u3 b0_2_u3 b0_3_u3 b1_0_u3 b1_1_u3
    have OX0 := Lib.hid oX0; clear oX0
    have Op0 := Lib.hid op0; clear op0
    go_wp2_with fail
    refine (toIntS_any _ _ _ _ _ (HA2.out.new ((((K0.out.trans Ku1.out).trans Ku2.out).trans Ku3.out).trans Ku4.out)) hn2).mono ?_
    rintro e u5 ⟨x1a, x1c, rfl, oX1, n_u5⟩
    have b0_0_u5 : u5.cell? ⟨w.heap.size, 0, none⟩ = some (.int .i64 x0_0) := n_u5.cell b0_0_u4
    have b0_1_u5 : u5.cell? ⟨w.heap.size, 1, none⟩ = some (.int .i64 x0_1) := n_u5.cell b0_1_u4
    have b0_2_u5 : u5.cell? ⟨w.heap.size, 2, none⟩ = some (.int .i64 x0_2) := n_u5.cell b0_2_u4
    have b0_3_u5 : u5.cell? ⟨w.heap.size, 3, none⟩ = some (.int .i64 x0_3) := n_u5.cell b0_3_u4
    have b1_0_u5 : u5.cell? ⟨w.heap.size + 1, 0, none⟩ = some (.int .i64 x1_0) := n_u5.cell b1_0_u4
    have b1_1_u5 : u5.cell? ⟨w.heap.size + 1, 1, none⟩ = some (.bool x1_1) := n_u5.cell b1_1_u4
    have Ku5 := Lib.hid n_u5; clear n_u5
    clear b0_0_u4 b0_1_u4 b0_2_u4 b0_3_u4 b1_0_u4 b1_1_u4
    have OX1 := Lib.hid oX1; clear oX1
    go_upto_region 5 with fail
    go_region_held3 (fun w' => w'.cell? ⟨w.heap.size, 0, none⟩ = some (.int .i64 x0_0) ∧ w'.cell? ⟨w.heap.size, 1, none⟩ = some (.int .i64 x0_1) ∧ w'.cell? ⟨w.heap.size, 2, none⟩ = some (.int .i64 x0_2) ∧ w'.cell? ⟨w.heap.size, 3, none⟩ = some (.int .i64 x0_3) ∧ w'.cell? ⟨w.heap.size + 1, 0, none⟩ = some (.int .i64 x1_0) ∧ w'.cell? ⟨w.heap.size + 1, 1, none⟩ = some (.bool x1_1))
      (first | exact ⟨b0_0_u5, b0_1_u5, b0_2_u5, b0_3_u5, b1_0_u5, b1_1_u5⟩ | exact ⟨b0_0_u6, b0_1_u6, b0_2_u6, b0_3_u6, b1_0_u6, b1_1_u6⟩ | exact ⟨b0_0_u7, b0_1_u7, b0_2_u7, b0_3_u7, b1_0_u7, b1_1_u7⟩ | exact ⟨b0_0_u8, b0_1_u8, b0_2_u8, b0_3_u8, b1_0_u8, b1_1_u8⟩ | fail)
      (first
        | (go_at_call 18; refine (toSiphon_any _ _ _ _ _).mono ?_; rintro e u6 ⟨rfl, n_u6⟩; (try replace n_u6 := New.undrew n_u6); have b0_0_u6 : u6.cell? ⟨w.heap.size, 0, none⟩ = some (.int .i64 x0_0) := n_u6.cell b0_0_u5; have b0_1_u6 : u6.cell? ⟨w.heap.size, 1, none⟩ = some (.int .i64 x0_1) := n_u6.cell b0_1_u5; have b0_2_u6 : u6.cell? ⟨w.heap.size, 2, none⟩ = some (.int .i64 x0_2) := n_u6.cell b0_2_u5; have b0_3_u6 : u6.cell? ⟨w.heap.size, 3, none⟩ = some (.int .i64 x0_3) := n_u6.cell b0_3_u5; have b1_0_u6 : u6.cell? ⟨w.heap.size + 1, 0, none⟩ = some (.int .i64 x1_0) := n_u6.cell b1_0_u5; have b1_1_u6 : u6.cell? ⟨w.heap.size + 1, 1, none⟩ = some (.bool x1_1) := n_u6.cell b1_1_u5; skip)
        | (go_at_call 21; refine (toLevel_any _ _ _).mono ?_; rintro e u7 ⟨rfl, n_u7⟩; (try replace n_u7 := New.undrew n_u7); have b0_0_u7 : u7.cell? ⟨w.heap.size, 0, none⟩ = some (.int .i64 x0_0) := n_u7.cell b0_0_u6; have b0_1_u7 : u7.cell? ⟨w.heap.size, 1, none⟩ = some (.int .i64 x0_1) := n_u7.cell b0_1_u6; have b0_2_u7 : u7.cell? ⟨w.heap.size, 2, none⟩ = some (.int .i64 x0_2) := n_u7.cell b0_2_u6; have b0_3_u7 : u7.cell? ⟨w.heap.size, 3, none⟩ = some (.int .i64 x0_3) := n_u7.cell b0_3_u6; have b1_0_u7 : u7.cell? ⟨w.heap.size + 1, 0, none⟩ = some (.int .i64 x1_0) := n_u7.cell b1_0_u6; have b1_1_u7 : u7.cell? ⟨w.heap.size + 1, 1, none⟩ = some (.bool x1_1) := n_u7.cell b1_1_u6; skip)
        | (go_at_call 33; refine (iLevelsOf_any _ _ _ _ _ _ _ _ _ _ _ (OX1.out.ints.new (by repeat (first | with_reducible exact New.refl _ | with_reducible assumption | refine New.drewN ?_ _ | refine New.drew ?_ | refine New.alloc ?_ _ | refine New.setCell ?_ (by first | omega | (simp; omega) | (simp; done)) _ | (refine New.trans ?_ (by assumption)))))).mono ?_; rintro e u8 ⟨g0a, g0n, g0c, rfl, og0, n_u8⟩; (try replace n_u8 := New.undrew n_u8); have b0_0_u8 : u8.cell? ⟨w.heap.size, 0, none⟩ = some (.int .i64 x0_0) := n_u8.cell b0_0_u7; have b0_1_u8 : u8.cell? ⟨w.heap.size, 1, none⟩ = some (.int .i64 x0_1) := n_u8.cell b0_1_u7; have b0_2_u8 : u8.cell? ⟨w.heap.size, 2, none⟩ = some (.int .i64 x0_2) := n_u8.cell b0_2_u7; have b0_3_u8 : u8.cell? ⟨w.heap.size, 3, none⟩ = some (.int .i64 x0_3) := n_u8.cell b0_3_u7; have b1_0_u8 : u8.cell? ⟨w.heap.size + 1, 0, none⟩ = some (.int .i64 x1_0) := n_u8.cell b1_0_u7; have b1_1_u8 : u8.cell? ⟨w.heap.size + 1, 1, none⟩ = some (.bool x1_1) := n_u8.cell b1_1_u7; skip))
    have Ku6 := Lib.hid (show New u5 u6 from n_u6); clear n_u6
    have Ku7 := Lib.hid (show New u6 u7 from n_u7); clear n_u7
    have Ku8 := Lib.hid (show New u7 u8 from n_u8); clear n_u8
    clear b0_0_u5 b0_1_u5 b0_2_u5 b0_3_u5 b1_0_u5 b1_1_u5
    clear b0_0_u6 b0_1_u6 b0_2_u6 b0_3_u6 b1_0_u6 b1_1_u6
    clear b0_0_u7 b0_1_u7 b0_2_u7 b0_3_u7 b1_0_u7 b1_1_u7
    have Og0 := Lib.hid og0; clear og0
    go_wp2_with fail
    refine (eqLevelS_same _ _ _ _ _ _ _ _ Og0.out.reads (Op0.out.new (((Ku5.out.trans Ku6.out).trans Ku7.out).trans Ku8.out)).reads).mono ?_
    rintro e u9 ⟨rfl, n_u9⟩
    have b0_0_u9 : u9.cell? ⟨w.heap.size, 0, none⟩ = some (.int .i64 x0_0) := n_u9.cell b0_0_u8
    have b0_1_u9 : u9.cell? ⟨w.heap.size, 1, none⟩ = some (.int .i64 x0_1) := n_u9.cell b0_1_u8
    have b0_2_u9 : u9.cell? ⟨w.heap.size, 2, none⟩ = some (.int .i64 x0_2) := n_u9.cell b0_2_u8
    have b0_3_u9 : u9.cell? ⟨w.heap.size, 3, none⟩ = some (.int .i64 x0_3) := n_u9.cell b0_3_u8
    have b1_0_u9 : u9.cell? ⟨w.heap.size + 1, 0, none⟩ = some (.int .i64 x1_0) := n_u9.cell b1_0_u8
    have b1_1_u9 : u9.cell? ⟨w.heap.size + 1, 1, none⟩ = some (.bool x1_1) := n_u9.cell b1_1_u8
    have Ku9 := Lib.hid n_u9; clear n_u9
    clear b0_0_u8 b0_1_u8 b0_2_u8 b0_3_u8 b1_0_u8 b1_1_u8
    go_wp2_with fail
    refine (toIntS_any _ _ _ _ _ (HA2.out.new (((((((((K0.out.trans Ku1.out).trans Ku2.out).trans Ku3.out).trans Ku4.out).trans Ku5.out).trans Ku6.out).trans Ku7.out).trans Ku8.out).trans Ku9.out)) hn2).mono ?_
    rintro e u10 ⟨x2a, x2c, rfl, oX2, n_u10⟩
    have b0_0_u10 : u10.cell? ⟨w.heap.size, 0, none⟩ = some (.int .i64 x0_0) := n_u10.cell b0_0_u9
    have b0_1_u10 : u10.cell? ⟨w.heap.size, 1, none⟩ = some (.int .i64 x0_1) := n_u10.cell b0_1_u9
    have b0_2_u10 : u10.cell? ⟨w.heap.size, 2, none⟩ = some (.int .i64 x0_2) := n_u10.cell b0_2_u9
    have b0_3_u10 : u10.cell? ⟨w.heap.size, 3, none⟩ = some (.int .i64 x0_3) := n_u10.cell b0_3_u9
    have b1_0_u10 : u10.cell? ⟨w.heap.size + 1, 0, none⟩ = some (.int .i64 x1_0) := n_u10.cell b1_0_u9
    have b1_1_u10 : u10.cell? ⟨w.heap.size + 1, 1, none⟩ = some (.bool x1_1) := n_u10.cell b1_1_u9
    have Ku10 := Lib.hid n_u10; clear n_u10
    clear b0_0_u9 b0_1_u9 b0_2_u9 b0_3_u9 b1_0_u9 b1_1_u9
    have OX2 := Lib.hid oX2; clear oX2
    go_wp2_with fail
    refine (eqIntS_same _ _ _ _ _ _ _ _ (OX1.out.new ((((Ku6.out.trans Ku7.out).trans Ku8.out).trans Ku9.out).trans Ku10.out)).ints OX2.out.ints).mono ?_
    rintro e u11 ⟨rfl, n_u11⟩
    have b0_0_u11 : u11.cell? ⟨w.heap.size, 0, none⟩ = some (.int .i64 x0_0) := n_u11.cell b0_0_u10
    have b0_1_u11 : u11.cell? ⟨w.heap.size, 1, none⟩ = some (.int .i64 x0_1) := n_u11.cell b0_1_u10
    have b0_2_u11 : u11.cell? ⟨w.heap.size, 2, none⟩ = some (.int .i64 x0_2) := n_u11.cell b0_2_u10
    have b0_3_u11 : u11.cell? ⟨w.heap.size, 3, none⟩ = some (.int .i64 x0_3) := n_u11.cell b0_3_u10
    have b1_0_u11 : u11.cell? ⟨w.heap.size + 1, 0, none⟩ = some (.int .i64 x1_0) := n_u11.cell b1_0_u10
    have b1_1_u11 : u11.cell? ⟨w.heap.size + 1, 1, none⟩ = some (.bool x1_1) := n_u11.cell b1_1_u10
    have Ku11 := Lib.hid n_u11; clear n_u11
    clear b0_0_u10 b0_1_u10 b0_2_u10 b0_3_u10 b1_0_u10 b1_1_u10
    go_wp2_with fail
    refine (markIntS_any _ u4.heap.size u5.heap.size _ _ _ _ _ (OX1.out.new (((((Ku6.out.trans Ku7.out).trans Ku8.out).trans Ku9.out).trans Ku10.out).trans Ku11.out)) (by omega) (by omega)).mono ?_
    rintro e u12 ⟨rfl, mu12, ku12⟩
    have b0_0_u12 : u12.cell? ⟨w.heap.size, 0, none⟩ = some (.int .i64 x0_0) := ku12.cell b0_0_u11 (fun h => by have s0 := K0.out.size; have s1 := Ku1.out.size; have s2 := Ku2.out.size; have s3 := Ku3.out.size; have s4 := Ku4.out.size; have s5 := Ku5.out.size; have s6 := Ku6.out.size; have s7 := Ku7.out.size; have s8 := Ku8.out.size; have s9 := Ku9.out.size; have s10 := Ku10.out.size; have s11 := Ku11.out.size; skip; have bb := ((OX1.out.new (((((Ku6.out.trans Ku7.out).trans Ku8.out).trans Ku9.out).trans Ku10.out).trans Ku11.out))).bounds h.1 h.2; (try simp only at bb); omega)
    have b0_1_u12 : u12.cell? ⟨w.heap.size, 1, none⟩ = some (.int .i64 x0_1) := ku12.cell b0_1_u11 (fun h => by have s0 := K0.out.size; have s1 := Ku1.out.size; have s2 := Ku2.out.size; have s3 := Ku3.out.size; have s4 := Ku4.out.size; have s5 := Ku5.out.size; have s6 := Ku6.out.size; have s7 := Ku7.out.size; have s8 := Ku8.out.size; have s9 := Ku9.out.size; have s10 := Ku10.out.size; have s11 := Ku11.out.size; skip; have bb := ((OX1.out.new (((((Ku6.out.trans Ku7.out).trans Ku8.out).trans Ku9.out).trans Ku10.out).trans Ku11.out))).bounds h.1 h.2; (try simp only at bb); omega)
    have b0_2_u12 : u12.cell? ⟨w.heap.size, 2, none⟩ = some (.int .i64 x0_2) := ku12.cell b0_2_u11 (fun h => by have s0 := K0.out.size; have s1 := Ku1.out.size; have s2 := Ku2.out.size; have s3 := Ku3.out.size; have s4 := Ku4.out.size; have s5 := Ku5.out.size; have s6 := Ku6.out.size; have s7 := Ku7.out.size; have s8 := Ku8.out.size; have s9 := Ku9.out.size; have s10 := Ku10.out.size; have s11 := Ku11.out.size; skip; have bb := ((OX1.out.new (((((Ku6.out.trans Ku7.out).trans Ku8.out).trans Ku9.out).trans Ku10.out).trans Ku11.out))).bounds h.1 h.2; (try simp only at bb); omega)
    have b0_3_u12 : u12.cell? ⟨w.heap.size, 3, none⟩ = some (.int .i64 x0_3) := ku12.cell b0_3_u11 (fun h => by have s0 := K0.out.size; have s1 := Ku1.out.size; have s2 := Ku2.out.size; have s3 := Ku3.out.size; have s4 := Ku4.out.size; have s5 := Ku5.out.size; have s6 := Ku6.out.size; have s7 := Ku7.out.size; have s8 := Ku8.out.size; have s9 := Ku9.out.size; have s10 := Ku10.out.size; have s11 := Ku11.out.size; skip; have bb := ((OX1.out.new (((((Ku6.out.trans Ku7.out).trans Ku8.out).trans Ku9.out).trans Ku10.out).trans Ku11.out))).bounds h.1 h.2; (try simp only at bb); omega)
    have b1_0_u12 : u12.cell? ⟨w.heap.size + 1, 0, none⟩ = some (.int .i64 x1_0) := ku12.cell b1_0_u11 (fun h => by have s0 := K0.out.size; have s1 := Ku1.out.size; have s2 := Ku2.out.size; have s3 := Ku3.out.size; have s4 := Ku4.out.size; have s5 := Ku5.out.size; have s6 := Ku6.out.size; have s7 := Ku7.out.size; have s8 := Ku8.out.size; have s9 := Ku9.out.size; have s10 := Ku10.out.size; have s11 := Ku11.out.size; skip; have bb := ((OX1.out.new (((((Ku6.out.trans Ku7.out).trans Ku8.out).trans Ku9.out).trans Ku10.out).trans Ku11.out))).bounds h.1 h.2; (try simp only at bb); omega)
    have b1_1_u12 : u12.cell? ⟨w.heap.size + 1, 1, none⟩ = some (.bool x1_1) := ku12.cell b1_1_u11 (fun h => by have s0 := K0.out.size; have s1 := Ku1.out.size; have s2 := Ku2.out.size; have s3 := Ku3.out.size; have s4 := Ku4.out.size; have s5 := Ku5.out.size; have s6 := Ku6.out.size; have s7 := Ku7.out.size; have s8 := Ku8.out.size; have s9 := Ku9.out.size; have s10 := Ku10.out.size; have s11 := Ku11.out.size; skip; have bb := ((OX1.out.new (((((Ku6.out.trans Ku7.out).trans Ku8.out).trans Ku9.out).trans Ku10.out).trans Ku11.out))).bounds h.1 h.2; (try simp only at bb); omega)
    have Ku12 := Lib.hid ku12; clear ku12
    have Op0_u12 := Lib.hid ((Op0.out.new ((((((Ku5.out.trans Ku6.out).trans Ku7.out).trans Ku8.out).trans Ku9.out).trans Ku10.out).trans Ku11.out)).chg Ku12.out (fun b h1 h2 h => by have s0 := K0.out.size; have s1 := Ku1.out.size; have s2 := Ku2.out.size; have s3 := Ku3.out.size; have s4 := Ku4.out.size; have s5 := Ku5.out.size; have s6 := Ku6.out.size; have s7 := Ku7.out.size; have s8 := Ku8.out.size; have s9 := Ku9.out.size; have s10 := Ku10.out.size; have s11 := Ku11.out.size; skip; have bb := ((OX1.out.new (((((Ku6.out.trans Ku7.out).trans Ku8.out).trans Ku9.out).trans Ku10.out).trans Ku11.out))).bounds h.1 h.2; omega))
    have Og0_u12 := Lib.hid ((Og0.out.new ((Ku9.out.trans Ku10.out).trans Ku11.out)).chg Ku12.out (fun b h1 h2 h => by have s0 := K0.out.size; have s1 := Ku1.out.size; have s2 := Ku2.out.size; have s3 := Ku3.out.size; have s4 := Ku4.out.size; have s5 := Ku5.out.size; have s6 := Ku6.out.size; have s7 := Ku7.out.size; have s8 := Ku8.out.size; have s9 := Ku9.out.size; have s10 := Ku10.out.size; have s11 := Ku11.out.size; skip; have bb := ((OX1.out.new (((((Ku6.out.trans Ku7.out).trans Ku8.out).trans Ku9.out).trans Ku10.out).trans Ku11.out))).bounds h.1 h.2; omega))
    clear mu12
    clear b0_0_u11 b0_1_u11 b0_2_u11 b0_3_u11 b1_0_u11 b1_1_u11
    have eu12 : ¬ 1 + (n2 : Int) < 0 := by omega
    go_wp2_with fail
    refine (eqLevelS_same _ _ _ _ _ _ _ _ Og0_u12.out.reads Op0_u12.out.reads).mono ?_
    rintro e u13 ⟨rfl, n_u13⟩
    have b0_0_u13 : u13.cell? ⟨w.heap.size, 0, none⟩ = some (.int .i64 x0_0) := n_u13.cell b0_0_u12
    have b0_1_u13 : u13.cell? ⟨w.heap.size, 1, none⟩ = some (.int .i64 x0_1) := n_u13.cell b0_1_u12
    have b0_2_u13 : u13.cell? ⟨w.heap.size, 2, none⟩ = some (.int .i64 x0_2) := n_u13.cell b0_2_u12
    have b0_3_u13 : u13.cell? ⟨w.heap.size, 3, none⟩ = some (.int .i64 x0_3) := n_u13.cell b0_3_u12
    have b1_0_u13 : u13.cell? ⟨w.heap.size + 1, 0, none⟩ = some (.int .i64 x1_0) := n_u13.cell b1_0_u12
    have b1_1_u13 : u13.cell? ⟨w.heap.size + 1, 1, none⟩ = some (.bool x1_1) := n_u13.cell b1_1_u12
    have Ku13 := Lib.hid n_u13; clear n_u13
    clear b0_0_u12 b0_1_u12 b0_2_u12 b0_3_u12 b1_0_u12 b1_1_u12
    go_wp2_with fail
    have yu14 : g0n ≤ 1048576 := by have q1 := Og0_u12.out.1; have q2 := LR0.out; omega
    refine (markLevelS_any _ u7.heap.size u8.heap.size _ _ _ _ _ (Og0_u12.out.new Ku13.out) (by omega) (by omega)).mono ?_
    rintro e u14 ⟨rfl, mu14, ku14⟩
    have b0_0_u14 : u14.cell? ⟨w.heap.size, 0, none⟩ = some (.int .i64 x0_0) := ku14.cell b0_0_u13 (fun h => by have s0 := K0.out.size; have s1 := Ku1.out.size; have s2 := Ku2.out.size; have s3 := Ku3.out.size; have s4 := Ku4.out.size; have s5 := Ku5.out.size; have s6 := Ku6.out.size; have s7 := Ku7.out.size; have s8 := Ku8.out.size; have s9 := Ku9.out.size; have s10 := Ku10.out.size; have s11 := Ku11.out.size; have s12 := Ku12.out.size; have s13 := Ku13.out.size; skip; have bb := ((Og0_u12.out.new Ku13.out)).bounds h.1 h.2; (try simp only at bb); omega)
    have b0_1_u14 : u14.cell? ⟨w.heap.size, 1, none⟩ = some (.int .i64 x0_1) := ku14.cell b0_1_u13 (fun h => by have s0 := K0.out.size; have s1 := Ku1.out.size; have s2 := Ku2.out.size; have s3 := Ku3.out.size; have s4 := Ku4.out.size; have s5 := Ku5.out.size; have s6 := Ku6.out.size; have s7 := Ku7.out.size; have s8 := Ku8.out.size; have s9 := Ku9.out.size; have s10 := Ku10.out.size; have s11 := Ku11.out.size; have s12 := Ku12.out.size; have s13 := Ku13.out.size; skip; have bb := ((Og0_u12.out.new Ku13.out)).bounds h.1 h.2; (try simp only at bb); omega)
    have b0_2_u14 : u14.cell? ⟨w.heap.size, 2, none⟩ = some (.int .i64 x0_2) := ku14.cell b0_2_u13 (fun h => by have s0 := K0.out.size; have s1 := Ku1.out.size; have s2 := Ku2.out.size; have s3 := Ku3.out.size; have s4 := Ku4.out.size; have s5 := Ku5.out.size; have s6 := Ku6.out.size; have s7 := Ku7.out.size; have s8 := Ku8.out.size; have s9 := Ku9.out.size; have s10 := Ku10.out.size; have s11 := Ku11.out.size; have s12 := Ku12.out.size; have s13 := Ku13.out.size; skip; have bb := ((Og0_u12.out.new Ku13.out)).bounds h.1 h.2; (try simp only at bb); omega)
    have b0_3_u14 : u14.cell? ⟨w.heap.size, 3, none⟩ = some (.int .i64 x0_3) := ku14.cell b0_3_u13 (fun h => by have s0 := K0.out.size; have s1 := Ku1.out.size; have s2 := Ku2.out.size; have s3 := Ku3.out.size; have s4 := Ku4.out.size; have s5 := Ku5.out.size; have s6 := Ku6.out.size; have s7 := Ku7.out.size; have s8 := Ku8.out.size; have s9 := Ku9.out.size; have s10 := Ku10.out.size; have s11 := Ku11.out.size; have s12 := Ku12.out.size; have s13 := Ku13.out.size; skip; have bb := ((Og0_u12.out.new Ku13.out)).bounds h.1 h.2; (try simp only at bb); omega)
    have b1_0_u14 : u14.cell? ⟨w.heap.size + 1, 0, none⟩ = some (.int .i64 x1_0) := ku14.cell b1_0_u13 (fun h => by have s0 := K0.out.size; have s1 := Ku1.out.size; have s2 := Ku2.out.size; have s3 := Ku3.out.size; have s4 := Ku4.out.size; have s5 := Ku5.out.size; have s6 := Ku6.out.size; have s7 := Ku7.out.size; have s8 := Ku8.out.size; have s9 := Ku9.out.size; have s10 := Ku10.out.size; have s11 := Ku11.out.size; have s12 := Ku12.out.size; have s13 := Ku13.out.size; skip; have bb := ((Og0_u12.out.new Ku13.out)).bounds h.1 h.2; (try simp only at bb); omega)
    have b1_1_u14 : u14.cell? ⟨w.heap.size + 1, 1, none⟩ = some (.bool x1_1) := ku14.cell b1_1_u13 (fun h => by have s0 := K0.out.size; have s1 := Ku1.out.size; have s2 := Ku2.out.size; have s3 := Ku3.out.size; have s4 := Ku4.out.size; have s5 := Ku5.out.size; have s6 := Ku6.out.size; have s7 := Ku7.out.size; have s8 := Ku8.out.size; have s9 := Ku9.out.size; have s10 := Ku10.out.size; have s11 := Ku11.out.size; have s12 := Ku12.out.size; have s13 := Ku13.out.size; skip; have bb := ((Og0_u12.out.new Ku13.out)).bounds h.1 h.2; (try simp only at bb); omega)
    have Ku14 := Lib.hid ku14; clear ku14
    have Op0_u12_u14 := Lib.hid ((Op0_u12.out.new Ku13.out).chg Ku14.out (fun b h1 h2 h => by have s0 := K0.out.size; have s1 := Ku1.out.size; have s2 := Ku2.out.size; have s3 := Ku3.out.size; have s4 := Ku4.out.size; have s5 := Ku5.out.size; have s6 := Ku6.out.size; have s7 := Ku7.out.size; have s8 := Ku8.out.size; have s9 := Ku9.out.size; have s10 := Ku10.out.size; have s11 := Ku11.out.size; have s12 := Ku12.out.size; have s13 := Ku13.out.size; skip; have bb := ((Og0_u12.out.new Ku13.out)).bounds h.1 h.2; omega))
    have Mu14 := Lib.hid mu14; clear mu14
    clear b0_0_u13 b0_1_u13 b0_2_u13 b0_3_u13 b1_0_u13 b1_1_u13
    have eu14 : ¬ 1 + 2 * (g0n : Int) < 0 := by omega
    go_wp2_with fail
    refine (heldLevelS_new _ _ _ _ _ Mu14.out.reads (by omega) (by omega)).mono ?_
    rintro e u15 ⟨rfl, n_u15⟩
    have b0_0_u15 : u15.cell? ⟨w.heap.size, 0, none⟩ = some (.int .i64 x0_0) := n_u15.cell b0_0_u14
    have b0_1_u15 : u15.cell? ⟨w.heap.size, 1, none⟩ = some (.int .i64 x0_1) := n_u15.cell b0_1_u14
    have b0_2_u15 : u15.cell? ⟨w.heap.size, 2, none⟩ = some (.int .i64 x0_2) := n_u15.cell b0_2_u14
    have b0_3_u15 : u15.cell? ⟨w.heap.size, 3, none⟩ = some (.int .i64 x0_3) := n_u15.cell b0_3_u14
    have b1_0_u15 : u15.cell? ⟨w.heap.size + 1, 0, none⟩ = some (.int .i64 x1_0) := n_u15.cell b1_0_u14
    have b1_1_u15 : u15.cell? ⟨w.heap.size + 1, 1, none⟩ = some (.bool x1_1) := n_u15.cell b1_1_u14
    have Ku15 := Lib.hid n_u15; clear n_u15
    clear b0_0_u14 b0_1_u14 b0_2_u14 b0_3_u14 b1_0_u14 b1_1_u14
    go_upto_region 22 with fail
    go_region_held3 (fun w' => w'.cell? ⟨w.heap.size, 0, none⟩ = some (.int .i64 x0_0) ∧ w'.cell? ⟨w.heap.size, 1, none⟩ = some (.int .i64 x0_1) ∧ w'.cell? ⟨w.heap.size, 2, none⟩ = some (.int .i64 x0_2) ∧ w'.cell? ⟨w.heap.size, 3, none⟩ = some (.int .i64 x0_3) ∧ w'.cell? ⟨w.heap.size + 1, 0, none⟩ = some (.int .i64 x1_0) ∧ w'.cell? ⟨w.heap.size + 1, 1, none⟩ = some (.bool x1_1))
      (first | exact ⟨b0_0_u15, b0_1_u15, b0_2_u15, b0_3_u15, b1_0_u15, b1_1_u15⟩ | exact ⟨b0_0_u16, b0_1_u16, b0_2_u16, b0_3_u16, b1_0_u16, b1_1_u16⟩ | exact ⟨b0_0_u17, b0_1_u17, b0_2_u17, b0_3_u17, b1_0_u17, b1_1_u17⟩ | exact ⟨b0_0_u18, b0_1_u18, b0_2_u18, b0_3_u18, b1_0_u18, b1_1_u18⟩ | exact ⟨b0_0_u19, b0_1_u19, b0_2_u19, b0_3_u19, b1_0_u19, b1_1_u19⟩ | fail)
      (first
        | (go_at_call 18; refine (toSiphon_any _ _ _ _ _).mono ?_; rintro e u16 ⟨rfl, n_u16⟩; (try replace n_u16 := New.undrew n_u16); have b0_0_u16 : u16.cell? ⟨w.heap.size, 0, none⟩ = some (.int .i64 x0_0) := n_u16.cell b0_0_u15; have b0_1_u16 : u16.cell? ⟨w.heap.size, 1, none⟩ = some (.int .i64 x0_1) := n_u16.cell b0_1_u15; have b0_2_u16 : u16.cell? ⟨w.heap.size, 2, none⟩ = some (.int .i64 x0_2) := n_u16.cell b0_2_u15; have b0_3_u16 : u16.cell? ⟨w.heap.size, 3, none⟩ = some (.int .i64 x0_3) := n_u16.cell b0_3_u15; have b1_0_u16 : u16.cell? ⟨w.heap.size + 1, 0, none⟩ = some (.int .i64 x1_0) := n_u16.cell b1_0_u15; have b1_1_u16 : u16.cell? ⟨w.heap.size + 1, 1, none⟩ = some (.bool x1_1) := n_u16.cell b1_1_u15; skip)
        | (go_at_call 21; refine (toLevel_any _ _ _).mono ?_; rintro e u17 ⟨rfl, n_u17⟩; (try replace n_u17 := New.undrew n_u17); have b0_0_u17 : u17.cell? ⟨w.heap.size, 0, none⟩ = some (.int .i64 x0_0) := n_u17.cell b0_0_u16; have b0_1_u17 : u17.cell? ⟨w.heap.size, 1, none⟩ = some (.int .i64 x0_1) := n_u17.cell b0_1_u16; have b0_2_u17 : u17.cell? ⟨w.heap.size, 2, none⟩ = some (.int .i64 x0_2) := n_u17.cell b0_2_u16; have b0_3_u17 : u17.cell? ⟨w.heap.size, 3, none⟩ = some (.int .i64 x0_3) := n_u17.cell b0_3_u16; have b1_0_u17 : u17.cell? ⟨w.heap.size + 1, 0, none⟩ = some (.int .i64 x1_0) := n_u17.cell b1_0_u16; have b1_1_u17 : u17.cell? ⟨w.heap.size + 1, 1, none⟩ = some (.bool x1_1) := n_u17.cell b1_1_u16; skip)
        | (go_at_call 27; refine (toIntS_any _ _ _ _ _ ((HA2.out.new ((Chg.new ((Chg.new (((((((((((K0.out.trans Ku1.out).trans Ku2.out).trans Ku3.out).trans Ku4.out).trans Ku5.out).trans Ku6.out).trans Ku7.out).trans Ku8.out).trans Ku9.out).trans Ku10.out).trans Ku11.out) Ku12.out (fun i hi => by have s0 := K0.out.size; have s1 := Ku1.out.size; have s2 := Ku2.out.size; have s3 := Ku3.out.size; have s4 := Ku4.out.size; have s5 := Ku5.out.size; have s6 := Ku6.out.size; have s7 := Ku7.out.size; have s8 := Ku8.out.size; have s9 := Ku9.out.size; have s10 := Ku10.out.size; have s11 := Ku11.out.size; skip; have bb := ((OX1.out.new (((((Ku6.out.trans Ku7.out).trans Ku8.out).trans Ku9.out).trans Ku10.out).trans Ku11.out))).bounds hi.1 hi.2; omega)).trans Ku13.out) Ku14.out (fun i hi => by have s0 := K0.out.size; have s1 := Ku1.out.size; have s2 := Ku2.out.size; have s3 := Ku3.out.size; have s4 := Ku4.out.size; have s5 := Ku5.out.size; have s6 := Ku6.out.size; have s7 := Ku7.out.size; have s8 := Ku8.out.size; have s9 := Ku9.out.size; have s10 := Ku10.out.size; have s11 := Ku11.out.size; have s12 := Ku12.out.size; have s13 := Ku13.out.size; skip; have bb := ((Og0_u12.out.new Ku13.out)).bounds hi.1 hi.2; omega)).trans Ku15.out)).new (by repeat (first | with_reducible exact New.refl _ | with_reducible assumption | refine New.drewN ?_ _ | refine New.drew ?_ | refine New.alloc ?_ _ | refine New.setCell ?_ (by first | omega | (simp; omega) | (simp; done)) _ | (refine New.trans ?_ (by assumption))))) hn2).mono ?_; rintro e u18 ⟨x3a, x3c, rfl, oX3, n_u18⟩; (try replace n_u18 := New.undrew n_u18); have b0_0_u18 : u18.cell? ⟨w.heap.size, 0, none⟩ = some (.int .i64 x0_0) := n_u18.cell b0_0_u17; have b0_1_u18 : u18.cell? ⟨w.heap.size, 1, none⟩ = some (.int .i64 x0_1) := n_u18.cell b0_1_u17; have b0_2_u18 : u18.cell? ⟨w.heap.size, 2, none⟩ = some (.int .i64 x0_2) := n_u18.cell b0_2_u17; have b0_3_u18 : u18.cell? ⟨w.heap.size, 3, none⟩ = some (.int .i64 x0_3) := n_u18.cell b0_3_u17; have b1_0_u18 : u18.cell? ⟨w.heap.size + 1, 0, none⟩ = some (.int .i64 x1_0) := n_u18.cell b1_0_u17; have b1_1_u18 : u18.cell? ⟨w.heap.size + 1, 1, none⟩ = some (.bool x1_1) := n_u18.cell b1_1_u17; skip)
        | (go_at_call 33; refine (iLevelsOf_any _ _ _ _ _ _ _ _ _ _ _ (oX3.ints.new (by repeat (first | with_reducible exact New.refl _ | with_reducible assumption | refine New.drewN ?_ _ | refine New.drew ?_ | refine New.alloc ?_ _ | refine New.setCell ?_ (by first | omega | (simp; omega) | (simp; done)) _ | (refine New.trans ?_ (by assumption)))))).mono ?_; rintro e u19 ⟨f0a, f0n, f0c, rfl, of0, n_u19⟩; (try replace n_u19 := New.undrew n_u19); have b0_0_u19 : u19.cell? ⟨w.heap.size, 0, none⟩ = some (.int .i64 x0_0) := n_u19.cell b0_0_u18; have b0_1_u19 : u19.cell? ⟨w.heap.size, 1, none⟩ = some (.int .i64 x0_1) := n_u19.cell b0_1_u18; have b0_2_u19 : u19.cell? ⟨w.heap.size, 2, none⟩ = some (.int .i64 x0_2) := n_u19.cell b0_2_u18; have b0_3_u19 : u19.cell? ⟨w.heap.size, 3, none⟩ = some (.int .i64 x0_3) := n_u19.cell b0_3_u18; have b1_0_u19 : u19.cell? ⟨w.heap.size + 1, 0, none⟩ = some (.int .i64 x1_0) := n_u19.cell b1_0_u18; have b1_1_u19 : u19.cell? ⟨w.heap.size + 1, 1, none⟩ = some (.bool x1_1) := n_u19.cell b1_1_u18; skip))
    have Ku16 := Lib.hid (show New u15 u16 from n_u16); clear n_u16
    have Ku17 := Lib.hid (show New u16 u17 from n_u17); clear n_u17
    have Ku18 := Lib.hid (show New u17 u18 from n_u18); clear n_u18
    have Ku19 := Lib.hid (show New u18 u19 from n_u19); clear n_u19
    clear b0_0_u15 b0_1_u15 b0_2_u15 b0_3_u15 b1_0_u15 b1_1_u15
    clear b0_0_u16 b0_1_u16 b0_2_u16 b0_3_u16 b1_0_u16 b1_1_u16
    clear b0_0_u17 b0_1_u17 b0_2_u17 b0_3_u17 b1_0_u17 b1_1_u17
    clear b0_0_u18 b0_1_u18 b0_2_u18 b0_3_u18 b1_0_u18 b1_1_u18
    have OX3 := Lib.hid oX3; clear oX3
    have Of0 := Lib.hid of0; clear of0
    go_wp2_with fail
    refine (eqLevelS_same _ _ _ _ _ _ _ _ Of0.out.reads (Op0_u12_u14.out.new ((((Ku15.out.trans Ku16.out).trans Ku17.out).trans Ku18.out).trans Ku19.out)).reads).mono ?_
    rintro e u20 ⟨rfl, n_u20⟩
    have b0_0_u20 : u20.cell? ⟨w.heap.size, 0, none⟩ = some (.int .i64 x0_0) := n_u20.cell b0_0_u19
    have b0_1_u20 : u20.cell? ⟨w.heap.size, 1, none⟩ = some (.int .i64 x0_1) := n_u20.cell b0_1_u19
    have b0_2_u20 : u20.cell? ⟨w.heap.size, 2, none⟩ = some (.int .i64 x0_2) := n_u20.cell b0_2_u19
    have b0_3_u20 : u20.cell? ⟨w.heap.size, 3, none⟩ = some (.int .i64 x0_3) := n_u20.cell b0_3_u19
    have b1_0_u20 : u20.cell? ⟨w.heap.size + 1, 0, none⟩ = some (.int .i64 x1_0) := n_u20.cell b1_0_u19
    have b1_1_u20 : u20.cell? ⟨w.heap.size + 1, 1, none⟩ = some (.bool x1_1) := n_u20.cell b1_1_u19
    have Ku20 := Lib.hid n_u20; clear n_u20
    clear b0_0_u19 b0_1_u19 b0_2_u19 b0_3_u19 b1_0_u19 b1_1_u19
    go_wp2_with fail
    refine (heldLevelS_new _ _ _ _ _ (Mu14.out.new (((((Ku15.out.trans Ku16.out).trans Ku17.out).trans Ku18.out).trans Ku19.out).trans Ku20.out)).reads (by omega) (by omega)).mono ?_
    rintro e u21 ⟨rfl, n_u21⟩
    have b0_0_u21 : u21.cell? ⟨w.heap.size, 0, none⟩ = some (.int .i64 x0_0) := n_u21.cell b0_0_u20
    have b0_1_u21 : u21.cell? ⟨w.heap.size, 1, none⟩ = some (.int .i64 x0_1) := n_u21.cell b0_1_u20
    have b0_2_u21 : u21.cell? ⟨w.heap.size, 2, none⟩ = some (.int .i64 x0_2) := n_u21.cell b0_2_u20
    have b0_3_u21 : u21.cell? ⟨w.heap.size, 3, none⟩ = some (.int .i64 x0_3) := n_u21.cell b0_3_u20
    have b1_0_u21 : u21.cell? ⟨w.heap.size + 1, 0, none⟩ = some (.int .i64 x1_0) := n_u21.cell b1_0_u20
    have b1_1_u21 : u21.cell? ⟨w.heap.size + 1, 1, none⟩ = some (.bool x1_1) := n_u21.cell b1_1_u20
    have Ku21 := Lib.hid n_u21; clear n_u21
    clear b0_0_u20 b0_1_u20 b0_2_u20 b0_3_u20 b1_0_u20 b1_1_u20
    go_wp2
    go_ret
    exact ⟨rfl, ((((((((Chg.new ((Chg.new (((((((((((K0.out.trans Ku1.out).trans Ku2.out).trans Ku3.out).trans Ku4.out).trans Ku5.out).trans Ku6.out).trans Ku7.out).trans Ku8.out).trans Ku9.out).trans Ku10.out).trans Ku11.out) Ku12.out (fun i hi => by have s0 := K0.out.size; have s1 := Ku1.out.size; have s2 := Ku2.out.size; have s3 := Ku3.out.size; have s4 := Ku4.out.size; have s5 := Ku5.out.size; have s6 := Ku6.out.size; have s7 := Ku7.out.size; have s8 := Ku8.out.size; have s9 := Ku9.out.size; have s10 := Ku10.out.size; have s11 := Ku11.out.size; skip; have bb := ((OX1.out.new (((((Ku6.out.trans Ku7.out).trans Ku8.out).trans Ku9.out).trans Ku10.out).trans Ku11.out))).bounds hi.1 hi.2; omega)).trans Ku13.out) Ku14.out (fun i hi => by have s0 := K0.out.size; have s1 := Ku1.out.size; have s2 := Ku2.out.size; have s3 := Ku3.out.size; have s4 := Ku4.out.size; have s5 := Ku5.out.size; have s6 := Ku6.out.size; have s7 := Ku7.out.size; have s8 := Ku8.out.size; have s9 := Ku9.out.size; have s10 := Ku10.out.size; have s11 := Ku11.out.size; have s12 := Ku12.out.size; have s13 := Ku13.out.size; skip; have bb := ((Og0_u12.out.new Ku13.out)).bounds hi.1 hi.2; omega)).trans Ku15.out).trans Ku16.out).trans Ku17.out).trans Ku18.out).trans Ku19.out).trans Ku20.out).trans Ku21.out)⟩
end Go.Proofs.Ytoobdahmjkooaaa
