/- The law of IsDesk: its walk. -/
import Derived.Test.YthnhckccmfjcmaaDeskF
import Derived.Deep.RegionHeld3
namespace Go.Proofs.Ythnhckccmfjcmaa
open Go.RowKit

theorem SzOk.le {left n r : Int} (h : SzOk left n r) (hr : 0 ≤ r) : n ≤ left := (h hr).1

set_option maxRecDepth 100000 in
set_option maxHeartbeats 4000000 in
theorem law_IsDesk (w : World) (aa ab : Option Addr) (n m ca cb : Nat) (S H : List Int) (k : Int) (h1 : Ints w aa n ca S) (h2 : Ints w ab m cb H) :
    Calls Try.prog 4 #[.agg #[.slice aa n ca, .slice ab m cb, .int .i64 k]] w fun e w' => e = .returned (.bool true) ∧ New w w' := by
  have HA := Lib.hid h1; clear h1
  have HB := Lib.hid h2; clear h2
  go_enter Try.func4, Try.ntmps4
  go_wp2_with fail
  refine (szDesk_any _ _ _ n m _ _ k _ HA.out.2.2.1 HB.out.2.2.1 (by omega) (by omega)).mono ?_
  rintro e w1 ⟨r, rfl, g1, g2, g3, n1⟩
  have G3 := Lib.hid g3; clear g3
  have a0 : w1.cell? ⟨w.heap.size, 0, none⟩ = some (.slice aa n ca) := n1.cell (by simp)
  have a1 : w1.cell? ⟨w.heap.size, 1, none⟩ = some (.slice ab m cb) := n1.cell (by simp)
  have a2 : w1.cell? ⟨w.heap.size, 2, none⟩ = some (.int .i64 k) := n1.cell (by simp)
  have N1 := Lib.hid (show New w w1 from New.trans (by repeat (first | with_reducible exact New.refl _ | with_reducible assumption | refine New.drewN ?_ _ | refine New.drew ?_ | refine New.alloc ?_ _ | refine New.setCell ?_ (by first | omega | (simp; omega) | (simp; done)) _ | (refine New.trans ?_ (by assumption)))) n1); clear n1
  by_cases hr : r < 0
  · go_wp2
    go_ret
    exact ⟨rfl, N1.out⟩
  · have hs := G3.out.le (by omega)
    have hn : n ≤ 1048576 := by omega
    have hm : m ≤ 1048576 := by omega
    clear hs
    go_wp2_with fail
    refine (toDesk_any _ _ _ _ _ _ _ _ _ k (HA.out.new N1.out) (HB.out.new N1.out) hn hm).mono ?_
    rintro e w2 ⟨sa, sc, sb, sd, rfl, o2, n2⟩
    have a0' := n2.cell a0
    have a1' := n2.cell a1
    have a2' := n2.cell a2
    have N2 := Lib.hid (N1.out.trans n2); clear n2
    have O2 := Lib.hid o2; clear o2
    clear a0 a1 a2
    go_wp2_with fail
    refine (sIsDesk_any _ _ _ _ _ _ _ _ _ k O2.out.1.ints O2.out.2.1.ints).mono ?_
    rintro e w3 ⟨rfl, n3⟩
    have a0 := n3.cell a0'
    have a1 := n3.cell a1'
    have a2 := n3.cell a2'
    have N3 := Lib.hid (N2.out.trans n3); clear n3
    clear a0' a1' a2'
    go_wp2_with fail
    refine (toDesk_any _ _ _ _ _ _ _ _ _ k (HA.out.new N3.out) (HB.out.new N3.out) hn hm).mono ?_
    rintro e w4 ⟨xa, xc, xb, xd, rfl, o4, n4⟩
    have a0' := n4.cell a0
    have a1' := n4.cell a1
    have a2' := n4.cell a2
    have O4 := Lib.hid o4; clear o4
    have z4 := N3.out.size
    have z4' := n4.size
    have y4 := World.block_lt_of_cell? _ _ a0
    simp only at y4
    have N4 := Lib.hid (N3.out.trans n4); clear n4
    clear a0 a1 a2
    go_wp2_with fail
    refine (iIsDesk_any _ _ _ _ _ _ _ S H k (O4.out.1.ints.new (by repeat (first | with_reducible exact New.refl _ | with_reducible assumption | refine New.drewN ?_ _ | refine New.drew ?_ | refine New.alloc ?_ _ | refine New.setCell ?_ (by first | omega | (simp; omega) | (simp; done)) _ | (refine New.trans ?_ (by assumption))))) (O4.out.2.1.ints.new (by repeat (first | with_reducible exact New.refl _ | with_reducible assumption | refine New.drewN ?_ _ | refine New.drew ?_ | refine New.alloc ?_ _ | refine New.setCell ?_ (by first | omega | (simp; omega) | (simp; done)) _ | (refine New.trans ?_ (by assumption)))))).mono ?_
    rintro e w5 ⟨rfl, n5⟩
    have b0 : w5.cell? ⟨w4.heap.size, 0, none⟩ = some (.slice xa n xc) := n5.cell (by simp)
    have b1 : w5.cell? ⟨w4.heap.size, 1, none⟩ = some (.slice xb m xd) := n5.cell (by simp)
    have a0 := n5.cell (World.cell_kept a0')
    have a1 := n5.cell (World.cell_kept a1')
    have a2 := n5.cell (World.cell_kept a2')
    have b2 : w5.cell? ⟨w4.heap.size, 2, none⟩ = some (.int .i64 k) := n5.cell (by simp)
    have n5' : New w4 w5 := New.trans (by repeat (first | with_reducible exact New.refl _ | with_reducible assumption | refine New.drewN ?_ _ | refine New.drew ?_ | refine New.alloc ?_ _ | refine New.setCell ?_ (by first | omega | (simp; omega) | (simp; done)) _ | (refine New.trans ?_ (by assumption)))) n5
    have N5 := Lib.hid n5'; clear n5 n5'
    clear a0' a1' a2'
    go_wp2_with fail
    go_region_held3 (fun w' => w'.cell? ⟨w4.heap.size, 0, none⟩ = some (.slice xa n xc) ∧ w'.cell? ⟨w4.heap.size, 1, none⟩ = some (.slice xb m xd) ∧ w'.cell? ⟨w4.heap.size, 2, none⟩ = some (.int .i64 k) ∧ w'.cell? ⟨w.heap.size, 0, none⟩ = some (.slice aa n ca) ∧ w'.cell? ⟨w.heap.size, 1, none⟩ = some (.slice ab m cb) ∧ w'.cell? ⟨w.heap.size, 2, none⟩ = some (.int .i64 k))
      (first | exact ⟨b0, b1, b2, a0, a1, a2⟩ | exact ⟨n6.cell b0, n6.cell b1, n6.cell b2, n6.cell a0, n6.cell a1, n6.cell a2⟩ | exact ⟨n7.cell (n6.cell b0), n7.cell (n6.cell b1), n7.cell (n6.cell b2), n7.cell (n6.cell a0), n7.cell (n6.cell a1), n7.cell (n6.cell a2)⟩ | fail)
      (first
        | (go_at_call 12; refine (toDesk_any _ _ _ _ _ _ _ S H k ?_ ?_ hn hm).mono ?_; exact HA.out.new (((N4.out.trans N5.out)).drew); exact HB.out.new (((N4.out.trans N5.out)).drew); rintro e w6 ⟨ya, yc, yb, yd, rfl, o6, n6⟩)
        | (go_at_call 7; refine (eqDesk_same _ _ _ _ _ _ _ _ _ _ _ _ _ S H k ?_ ?_ o6.1.ints o6.2.1.ints).mono ?_; exact (O4.out.1.ints.new N5.out).new ((New.refl _).drew.trans n6); exact (O4.out.2.1.ints.new N5.out).new ((New.refl _).drew.trans n6); rintro e w7 ⟨rfl, n7⟩))
    go_wp2
    go_ret
    exact ⟨rfl, ((N4.out.trans N5.out).drew.trans n6).trans n7⟩
end Go.Proofs.Ythnhckccmfjcmaa
