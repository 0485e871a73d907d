/- The law of IsUndone: its walk. -/
import Derived.Test.YtkonhflamnekcaaUndoI
import Derived.Test.YtkonhflamnekcaaUndoS
import Derived.Deep.RegionHeld3
namespace Go.Proofs.Ytkonhflamnekcaa
open Go.RowKit

set_option maxHeartbeats 4000000 in
theorem law_IsUndone (w : World) (aa ab : Option Addr) (n m ca cb : Nat) (S H : List Int) (f0 t0 : Int) (h1 : Ints w aa n ca S) (h2 : Ints w ab m cb H) :
    Calls Try.prog 7 #[.agg #[.slice aa n ca, .slice ab m cb], .agg #[.int .i64 f0, .int .i64 t0]] w fun e w' => e = .returned (.bool true) ∧ New w w' := by
  have HA := Lib.hid h1; clear h1
  have HB := Lib.hid h2; clear h2
  go_enter Try.func7, Try.ntmps7
  go_wp2_with fail
  refine (szVessels_any _ _ _ n m _ _ _ HA.out.2.2.1 HB.out.2.2.1 (by omega) (by omega)).mono ?_
  rintro e w1 ⟨r, rfl, g1, g2, g3, n1⟩
  have G3 := Lib.hid g3; clear g3
  have a0_1 : w1.cell? ⟨w.heap.size, 0, none⟩ = some (.slice aa n ca) := n1.cell (by simp [go_sem])
  have a1_1 : w1.cell? ⟨w.heap.size, 1, none⟩ = some (.slice ab m cb) := n1.cell (by simp [go_sem])
  have b0_1 : w1.cell? ⟨w.heap.size + 1, 0, none⟩ = some (.int .i64 f0) := n1.cell (by simp [go_sem])
  have c0_1 : w1.cell? ⟨w.heap.size + 1, 1, none⟩ = some (.int .i64 t0) := n1.cell (by simp [go_sem])
  have N1 := Lib.hid (show New w w1 from New.trans (by repeat (first | with_reducible exact New.refl _ | with_reducible assumption | refine New.drewN ?_ _ | refine New.drew ?_ | refine New.alloc ?_ _ | refine New.setCell ?_ (by first | omega | (simp; omega) | (simp; done)) _ | (refine New.trans ?_ (by assumption)))) n1); clear n1
  by_cases hr : r < 0
  · go_wp2
    go_ret
    exact ⟨rfl, N1.out⟩
  · have hs := (G3.out (by omega)).1
    have hn : n ≤ 1048576 := by omega
    have hm : m ≤ 1048576 := by omega
    clear hs
    go_wp2_with fail
    go_region_held3 (fun w' => w'.cell? ⟨w.heap.size, 0, none⟩ = some (.slice aa n ca) ∧ w'.cell? ⟨w.heap.size, 1, none⟩ = some (.slice ab m cb) ∧ w'.cell? ⟨w.heap.size + 1, 0, none⟩ = some (.int .i64 f0) ∧ w'.cell? ⟨w.heap.size + 1, 1, none⟩ = some (.int .i64 t0))
      (first | exact ⟨a0_1, a1_1, b0_1, c0_1⟩ | exact ⟨n2.cell a0_1, n2.cell a1_1, n2.cell b0_1, n2.cell c0_1⟩ | exact ⟨n3.cell (n2.cell a0_1), n3.cell (n2.cell a1_1), n3.cell (n2.cell b0_1), n3.cell (n2.cell c0_1)⟩ | exact ⟨n4.cell (n3.cell (n2.cell a0_1)), n4.cell (n3.cell (n2.cell a1_1)), n4.cell (n3.cell (n2.cell b0_1)), n4.cell (n3.cell (n2.cell c0_1))⟩ | fail)
      (first
        | (go_at_call 14; refine (toVessels_any _ _ _ _ _ _ _ S H ?_ ?_ hn hm).mono ?_; exact HA.out.new N1.out.drew; exact HB.out.new N1.out.drew; rintro e w2 ⟨sa, sc, sb, sd, rfl, o2, n2⟩)
        | (go_at_call 33; refine (toMove_any _ _ _).mono ?_; rintro e w3 ⟨rfl, n3⟩)
        | (go_at_call 32; refine (sIsUndone_any _ _ _ _ _ _ _ S H f0 t0 ?_ ?_).mono ?_; exact o2.1.ints.new n3; exact o2.2.1.ints.new n3; rintro e w4 ⟨rfl, n4⟩))
    have a0_4 : w4.cell? ⟨w.heap.size, 0, none⟩ = some (.slice aa n ca) := n4.cell (n3.cell (n2.cell a0_1))
    have a1_4 : w4.cell? ⟨w.heap.size, 1, none⟩ = some (.slice ab m cb) := n4.cell (n3.cell (n2.cell a1_1))
    have b0_4 : w4.cell? ⟨w.heap.size + 1, 0, none⟩ = some (.int .i64 f0) := n4.cell (n3.cell (n2.cell b0_1))
    have c0_4 : w4.cell? ⟨w.heap.size + 1, 1, none⟩ = some (.int .i64 t0) := n4.cell (n3.cell (n2.cell c0_1))
    have N4 := Lib.hid (((N1.out.drew.trans n2).trans n3).trans n4); clear o2 n2 n3 n4 a0_1 a1_1 b0_1 c0_1
    go_wp2_with fail
    refine (toVessels_any _ _ _ _ _ _ _ _ _ (HA.out.new N4.out) (HB.out.new N4.out) hn hm).mono ?_
    rintro e w5 ⟨xa, xc, xb, xd, rfl, ox, n5⟩
    have a0_5 : w5.cell? ⟨w.heap.size, 0, none⟩ = some (.slice aa n ca) := n5.cell a0_4
    have a1_5 : w5.cell? ⟨w.heap.size, 1, none⟩ = some (.slice ab m cb) := n5.cell a1_4
    have b0_5 : w5.cell? ⟨w.heap.size + 1, 0, none⟩ = some (.int .i64 f0) := n5.cell b0_4
    have c0_5 : w5.cell? ⟨w.heap.size + 1, 1, none⟩ = some (.int .i64 t0) := n5.cell c0_4
    have OX := Lib.hid ox; clear ox
    have y5 := World.block_lt_of_cell? _ _ a0_5
    simp only at y5
    have N5 := Lib.hid (N4.out.trans n5); clear n5 a0_4 a1_4 b0_4 c0_4
    go_wp2_with fail
    obtain ⟨wb, hwb⟩ : ∃ wb, wb = w5.alloc (.cells #[.slice xa n xc, .slice xb m xd] 28) := ⟨_, rfl⟩
    rw [← hwb]
    have x0_99 : wb.cell? ⟨w5.heap.size, 0, none⟩ = some (.slice xa n xc) := by rw [hwb]; simp
    have x1_99 : wb.cell? ⟨w5.heap.size, 1, none⟩ = some (.slice xb m xd) := by rw [hwb]; simp
    have a0_99 : wb.cell? ⟨w.heap.size, 0, none⟩ = some (.slice aa n ca) := by rw [hwb]; exact World.cell_kept a0_5
    have a1_99 : wb.cell? ⟨w.heap.size, 1, none⟩ = some (.slice ab m cb) := by rw [hwb]; exact World.cell_kept a1_5
    have b0_99 : wb.cell? ⟨w.heap.size + 1, 0, none⟩ = some (.int .i64 f0) := by rw [hwb]; exact World.cell_kept b0_5
    have c0_99 : wb.cell? ⟨w.heap.size + 1, 1, none⟩ = some (.int .i64 t0) := by rw [hwb]; exact World.cell_kept c0_5
    have NB := Lib.hid (show New w5 wb by rw [hwb]; exact (by repeat (first | with_reducible exact New.refl _ | with_reducible assumption | refine New.drewN ?_ _ | refine New.drew ?_ | refine New.alloc ?_ _ | refine New.setCell ?_ (by first | omega | (simp; omega) | (simp; done)) _ | (refine New.trans ?_ (by assumption)))))
    clear hwb a0_5 a1_5 b0_5 c0_5
    go_region_held3 (fun w' => w'.cell? ⟨w5.heap.size, 0, none⟩ = some (.slice xa n xc) ∧ w'.cell? ⟨w5.heap.size, 1, none⟩ = some (.slice xb m xd) ∧ w'.cell? ⟨w.heap.size, 0, none⟩ = some (.slice aa n ca) ∧ w'.cell? ⟨w.heap.size, 1, none⟩ = some (.slice ab m cb) ∧ w'.cell? ⟨w.heap.size + 1, 0, none⟩ = some (.int .i64 f0) ∧ w'.cell? ⟨w.heap.size + 1, 1, none⟩ = some (.int .i64 t0))
      (first | exact ⟨x0_99, x1_99, a0_99, a1_99, b0_99, c0_99⟩ | exact ⟨n6.cell x0_99, n6.cell x1_99, n6.cell a0_99, n6.cell a1_99, n6.cell b0_99, n6.cell c0_99⟩ | exact ⟨n7.cell (n6.cell x0_99), n7.cell (n6.cell x1_99), n7.cell (n6.cell a0_99), n7.cell (n6.cell a1_99), n7.cell (n6.cell b0_99), n7.cell (n6.cell c0_99)⟩ | fail)
      (first
        | (go_at_call 33; refine (toMove_any _ _ _).mono ?_; rintro e w6 ⟨rfl, n6⟩)
        | (go_at_call 34; refine (iIsUndone_any _ _ _ _ _ _ _ S H f0 t0 ?_ ?_).mono ?_; exact OX.out.1.ints.new (NB.out.drew.trans n6); exact OX.out.2.1.ints.new (NB.out.drew.trans n6); rintro e w7 ⟨rfl, n7⟩))
    have x0_7 : w7.cell? ⟨w5.heap.size, 0, none⟩ = some (.slice xa n xc) := n7.cell (n6.cell x0_99)
    have x1_7 : w7.cell? ⟨w5.heap.size, 1, none⟩ = some (.slice xb m xd) := n7.cell (n6.cell x1_99)
    have a0_7 : w7.cell? ⟨w.heap.size, 0, none⟩ = some (.slice aa n ca) := n7.cell (n6.cell a0_99)
    have a1_7 : w7.cell? ⟨w.heap.size, 1, none⟩ = some (.slice ab m cb) := n7.cell (n6.cell a1_99)
    have b0_7 : w7.cell? ⟨w.heap.size + 1, 0, none⟩ = some (.int .i64 f0) := n7.cell (n6.cell b0_99)
    have c0_7 : w7.cell? ⟨w.heap.size + 1, 1, none⟩ = some (.int .i64 t0) := n7.cell (n6.cell c0_99)
    have N7 := Lib.hid (show New w5 w7 from (NB.out.drew.trans n6).trans n7); clear n6 n7 a0_99 a1_99 b0_99 c0_99 x0_99 x1_99
    go_wp2_with fail
    go_region_held3 (fun w' => w'.cell? ⟨w5.heap.size, 0, none⟩ = some (.slice xa n xc) ∧ w'.cell? ⟨w5.heap.size, 1, none⟩ = some (.slice xb m xd) ∧ w'.cell? ⟨w.heap.size, 0, none⟩ = some (.slice aa n ca) ∧ w'.cell? ⟨w.heap.size, 1, none⟩ = some (.slice ab m cb) ∧ w'.cell? ⟨w.heap.size + 1, 0, none⟩ = some (.int .i64 f0) ∧ w'.cell? ⟨w.heap.size + 1, 1, none⟩ = some (.int .i64 t0))
      (first | exact ⟨x0_7, x1_7, a0_7, a1_7, b0_7, c0_7⟩ | exact ⟨n8.cell x0_7, n8.cell x1_7, n8.cell a0_7, n8.cell a1_7, n8.cell b0_7, n8.cell c0_7⟩ | exact ⟨n9.cell (n8.cell x0_7), n9.cell (n8.cell x1_7), n9.cell (n8.cell a0_7), n9.cell (n8.cell a1_7), n9.cell (n8.cell b0_7), n9.cell (n8.cell c0_7)⟩ | fail)
      (first
        | (go_at_call 14; refine (toVessels_any _ _ _ _ _ _ _ S H ?_ ?_ hn hm).mono ?_; exact HA.out.new ((N5.out.trans N7.out).drew); exact HB.out.new ((N5.out.trans N7.out).drew); rintro e w8 ⟨ya, yc, yb, yd, rfl, oy, n8⟩)
        | (go_at_call 17; refine (eqVessels_any _ _ _ _ _ _ _ _ _ _ _ _ _ S H S H ?_ ?_ oy.1.ints oy.2.1.ints).mono ?_; exact (OX.out.1.ints.new N7.out).new ((New.refl _).drew.trans n8); exact (OX.out.2.1.ints.new N7.out).new ((New.refl _).drew.trans n8); rintro e w9 ⟨rfl, n9⟩))
    go_wp2
    go_ret
    exact ⟨rfl, ((N5.out.trans N7.out).drew.trans n8).trans n9⟩
end Go.Proofs.Ytkonhflamnekcaa
