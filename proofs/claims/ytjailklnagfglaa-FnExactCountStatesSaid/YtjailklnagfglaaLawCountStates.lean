/- The law of CountStates: its walk. -/
import Derived.Test.YtjailklnagfglaaCountS
import Derived.Test.YtjailklnagfglaaCountI
import Derived.Deep.RegionHeld3
namespace Go.Proofs.Ytjailklnagfglaa
open Go.RowKit

set_option maxHeartbeats 4000000 in
theorem law_CountStates (w : World) (aa ab : Option Addr) (n m ca cb : Nat) (S H : List Int) (x0 : Bool) (h1 : Ints w aa n ca S) (h2 : Ints w ab m cb H) :
    Calls Try.prog 3 #[.agg #[.slice aa n ca, .slice ab m cb], .bool x0] w fun e w' => e = .returned (.bool true) ∧ New w w' := by
  have HA := Lib.hid h1; clear h1
  have HB := Lib.hid h2; clear h2
  go_enter Try.func3, Try.ntmps3
  go_wp2_with fail
  refine (szVessels_any _ _ _ n m _ _ _ HA.out.2.2.1 HB.out.2.2.1 (by omega) (by omega)).mono ?_
  rintro e w1 ⟨r, rfl, g1, g2, g3, n1⟩
  have G3 := Lib.hid g3; clear g3
  have a0_1 : w1.cell? ⟨w.heap.size, 0, none⟩ = some (.slice aa n ca) := n1.cell (by simp [go_sem])
  have a1_1 : w1.cell? ⟨w.heap.size, 1, none⟩ = some (.slice ab m cb) := n1.cell (by simp [go_sem])
  have N1 := Lib.hid (show New w w1 from New.trans (by repeat (first | with_reducible exact New.refl _ | with_reducible assumption | refine New.drewN ?_ _ | refine New.drew ?_ | refine New.alloc ?_ _ | refine New.setCell ?_ (by first | omega | (simp; omega) | (simp; done)) _ | (refine New.trans ?_ (by assumption)))) n1); clear n1
  by_cases hr : r < 0
  · go_wp2
    go_ret
    exact ⟨rfl, N1.out⟩
  · have hs := (G3.out (by omega)).1
    have hn : n ≤ 1048576 := by omega
    have hm : m ≤ 1048576 := by omega
    clear hs
    go_wp2_with fail
    refine (toVessels_any _ _ _ _ _ _ _ _ _ (HA.out.new N1.out) (HB.out.new N1.out) hn hm).mono ?_
    rintro e w2 ⟨sa, sc, sb, sd, rfl, o2, n2⟩
    have a0_2 : w2.cell? ⟨w.heap.size, 0, none⟩ = some (.slice aa n ca) := n2.cell a0_1
    have a1_2 : w2.cell? ⟨w.heap.size, 1, none⟩ = some (.slice ab m cb) := n2.cell a1_1
    have N2 := Lib.hid (N1.out.trans n2); clear n2 a0_1 a1_1
    have O2 := Lib.hid o2; clear o2
    go_wp2_with fail
    refine (sCountStates_any _ _ _ _ _ _ _ S H x0 O2.out.1.ints O2.out.2.1.ints).mono ?_
    rintro e w3 ⟨rfl, n3⟩
    have a0_3 : w3.cell? ⟨w.heap.size, 0, none⟩ = some (.slice aa n ca) := n3.cell a0_2
    have a1_3 : w3.cell? ⟨w.heap.size, 1, none⟩ = some (.slice ab m cb) := n3.cell a1_2
    have N3 := Lib.hid (N2.out.trans n3); clear n3 a0_2 a1_2
    go_wp2_with fail
    refine (toVessels_any _ _ _ _ _ _ _ _ _ (HA.out.new N3.out) (HB.out.new N3.out) hn hm).mono ?_
    rintro e w4 ⟨xa, xc, xb, xd, rfl, ox, n4⟩
    have a0_4 : w4.cell? ⟨w.heap.size, 0, none⟩ = some (.slice aa n ca) := n4.cell a0_3
    have a1_4 : w4.cell? ⟨w.heap.size, 1, none⟩ = some (.slice ab m cb) := n4.cell a1_3
    have OX := Lib.hid ox; clear ox
    have y4 := World.block_lt_of_cell? _ _ a0_4
    simp only at y4
    have N4 := Lib.hid (N3.out.trans n4); clear n4 a0_3 a1_3
    go_wp2_with fail
    refine (iCountStates_any _ _ _ _ _ _ _ S H x0 (OX.out.1.ints.new (by repeat (first | with_reducible exact New.refl _ | with_reducible assumption | refine New.drewN ?_ _ | refine New.drew ?_ | refine New.alloc ?_ _ | refine New.setCell ?_ (by first | omega | (simp; omega) | (simp; done)) _ | (refine New.trans ?_ (by assumption))))) (OX.out.2.1.ints.new (by repeat (first | with_reducible exact New.refl _ | with_reducible assumption | refine New.drewN ?_ _ | refine New.drew ?_ | refine New.alloc ?_ _ | refine New.setCell ?_ (by first | omega | (simp; omega) | (simp; done)) _ | (refine New.trans ?_ (by assumption)))))).mono ?_
    rintro e w5 ⟨rfl, n5⟩
    have x0_5 : w5.cell? ⟨w4.heap.size, 0, none⟩ = some (.slice xa n xc) := n5.cell (by simp)
    have x1_5 : w5.cell? ⟨w4.heap.size, 1, none⟩ = some (.slice xb m xd) := n5.cell (by simp)
    have a0_5 : w5.cell? ⟨w.heap.size, 0, none⟩ = some (.slice aa n ca) := n5.cell (World.cell_kept a0_4)
    have a1_5 : w5.cell? ⟨w.heap.size, 1, none⟩ = some (.slice ab m cb) := n5.cell (World.cell_kept a1_4)
    have N5 := Lib.hid (show New w4 w5 from New.trans (by repeat (first | with_reducible exact New.refl _ | with_reducible assumption | refine New.drewN ?_ _ | refine New.drew ?_ | refine New.alloc ?_ _ | refine New.setCell ?_ (by first | omega | (simp; omega) | (simp; done)) _ | (refine New.trans ?_ (by assumption)))) n5); clear n5 a0_4 a1_4
    go_wp2_with fail
    go_region_held3 (fun w' => w'.cell? ⟨w4.heap.size, 0, none⟩ = some (.slice xa n xc) ∧ w'.cell? ⟨w4.heap.size, 1, none⟩ = some (.slice xb m xd) ∧ w'.cell? ⟨w.heap.size, 0, none⟩ = some (.slice aa n ca) ∧ w'.cell? ⟨w.heap.size, 1, none⟩ = some (.slice ab m cb))
      (first | exact ⟨x0_5, x1_5, a0_5, a1_5⟩ | exact ⟨n6.cell x0_5, n6.cell x1_5, n6.cell a0_5, n6.cell a1_5⟩ | exact ⟨n7.cell (n6.cell x0_5), n7.cell (n6.cell x1_5), n7.cell (n6.cell a0_5), n7.cell (n6.cell a1_5)⟩ | fail)
      (first
        | (go_at_call 12; refine (toVessels_any _ _ _ _ _ _ _ S H ?_ ?_ hn hm).mono ?_; exact HA.out.new ((N4.out.trans N5.out).drew); exact HB.out.new ((N4.out.trans N5.out).drew); rintro e w6 ⟨ya, yc, yb, yd, rfl, oy, n6⟩)
        | (go_at_call 14; refine (eqVessels_any _ _ _ _ _ _ _ _ _ _ _ _ _ S H S H ?_ ?_ oy.1.ints oy.2.1.ints).mono ?_; exact (OX.out.1.ints.new N5.out).new ((New.refl _).drew.trans n6); exact (OX.out.2.1.ints.new N5.out).new ((New.refl _).drew.trans n6); rintro e w7 ⟨rfl, n7⟩))
    go_wp2
    go_ret
    exact ⟨rfl, ((N4.out.trans N5.out).drew.trans n6).trans n7⟩
end Go.Proofs.Ytjailklnagfglaa
