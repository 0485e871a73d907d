/- The law of FirstDesk: its walk. -/
import Derived.Test.YthnhckccmfjcmaaFdI
import Derived.Deep.RegionHeld3
namespace Go.Proofs.Ythnhckccmfjcmaa
open Go.RowKit

set_option maxRecDepth 100000 in
set_option maxHeartbeats 8000000 in
theorem law_FirstDesk (w : World) :
    Calls Try.prog 3 #[] w fun e w' => e = .returned (.bool true) ∧ New w w' := by
  go_enter Try.func3, Try.ntmps3
  go_wp2_with fail
  refine (sFirstDesk_any _).mono ?_
  rintro e w1 ⟨pa, pb, rfl, op, n1⟩
  have OP := Lib.hid op; clear op
  have N1 := Lib.hid n1; clear n1
  go_wp2_with fail
  refine (iFirstDesk_any _).mono ?_
  rintro e w2 ⟨ga, gb, rfl, og, n2⟩
  have p0_2 : w2.cell? ⟨w1.heap.size, 0, none⟩ = some (.slice pa 2 2) := n2.cell (by simp)
  have p1_2 : w2.cell? ⟨w1.heap.size, 1, none⟩ = some (.slice pb 2 2) := n2.cell (by simp)
  have p2_2 : w2.cell? ⟨w1.heap.size, 2, none⟩ = some (.int .i64 0) := n2.cell (by simp)
  have z2 := n2.size
  simp only [World.size_alloc] at z2
  have zp : w1.heap.size < w2.heap.size := by omega
  have OG := Lib.hid og; clear og
  have K2 := Lib.hid (show New w1 w2 from New.trans (by repeat (first | with_reducible exact New.refl _ | with_reducible assumption | refine New.drewN ?_ _ | refine New.drew ?_ | refine New.alloc ?_ _ | refine New.setCell ?_ (by first | omega | (simp; omega) | (simp; done)) _ | (refine New.trans ?_ (by assumption)))) n2); clear n2
  have N2 := Lib.hid (N1.out.trans K2.out)
  go_wp2_with fail
  refine (eqDesk_same _ _ _ _ _ _ _ _ _ _ _ _ _ [3, 5] [0, 5] 0 (OG.out.1.ints.new (by repeat (first | with_reducible exact New.refl _ | with_reducible assumption | refine New.drewN ?_ _ | refine New.drew ?_ | refine New.alloc ?_ _ | refine New.setCell ?_ (by first | omega | (simp; omega) | (simp; done)) _ | (refine New.trans ?_ (by assumption))))) (OG.out.2.1.ints.new (by repeat (first | with_reducible exact New.refl _ | with_reducible assumption | refine New.drewN ?_ _ | refine New.drew ?_ | refine New.alloc ?_ _ | refine New.setCell ?_ (by first | omega | (simp; omega) | (simp; done)) _ | (refine New.trans ?_ (by assumption))))) ((OP.out.1.ints.new K2.out).new (by repeat (first | with_reducible exact New.refl _ | with_reducible assumption | refine New.drewN ?_ _ | refine New.drew ?_ | refine New.alloc ?_ _ | refine New.setCell ?_ (by first | omega | (simp; omega) | (simp; done)) _ | (refine New.trans ?_ (by assumption))))) ((OP.out.2.1.ints.new K2.out).new (by repeat (first | with_reducible exact New.refl _ | with_reducible assumption | refine New.drewN ?_ _ | refine New.drew ?_ | refine New.alloc ?_ _ | refine New.setCell ?_ (by first | omega | (simp; omega) | (simp; done)) _ | (refine New.trans ?_ (by assumption)))))).mono ?_
  rintro e w3 ⟨rfl, n3⟩
  have p0_3 : w3.cell? ⟨w1.heap.size, 0, none⟩ = some (.slice pa 2 2) := n3.cell (World.cell_kept p0_2)
  have p1_3 : w3.cell? ⟨w1.heap.size, 1, none⟩ = some (.slice pb 2 2) := n3.cell (World.cell_kept p1_2)
  have p2_3 : w3.cell? ⟨w1.heap.size, 2, none⟩ = some (.int .i64 0) := n3.cell (World.cell_kept p2_2)
  have g0_3 : w3.cell? ⟨w2.heap.size, 0, none⟩ = some (.slice ga 2 2) := n3.cell (by simp)
  have g1_3 : w3.cell? ⟨w2.heap.size, 1, none⟩ = some (.slice gb 2 2) := n3.cell (by simp)
  have g2_3 : w3.cell? ⟨w2.heap.size, 2, none⟩ = some (.int .i64 0) := n3.cell (by simp)
  clear p0_2 p1_2 p2_2
  have z3 := n3.size
  simp only [World.size_alloc] at z3
  have zg : w2.heap.size < w3.heap.size := by omega
  have K3 := Lib.hid (show New w2 w3 from New.trans (by repeat (first | with_reducible exact New.refl _ | with_reducible assumption | refine New.drewN ?_ _ | refine New.drew ?_ | refine New.alloc ?_ _ | refine New.setCell ?_ (by first | omega | (simp; omega) | (simp; done)) _ | (refine New.trans ?_ (by assumption)))) n3); clear n3
  have OP3 := Lib.hid ((OP.out.new K2.out).new K3.out); clear OP
  go_wp2_with fail
  refine (markDesk_any _ (w1.alloc (.cells #[.slice pa 2 2, .slice pb 2 2, .int .i64 0] 26)).heap.size w2.heap.size _ _ _ _ _ _ [3, 5] [0, 5] 0 1 (OG.out.new K3.out) (by omega) (by decide)).mono ?_
  rintro e w4 ⟨rfl, o4, k4⟩
  have O4 := Lib.hid o4; clear o4
  have p0_4 : w4.cell? ⟨w1.heap.size, 0, none⟩ = some (.slice pa 2 2) := k4.cell p0_3 (by simp; omega)
  have p1_4 : w4.cell? ⟨w1.heap.size, 1, none⟩ = some (.slice pb 2 2) := k4.cell p1_3 (by simp; omega)
  have p2_4 : w4.cell? ⟨w1.heap.size, 2, none⟩ = some (.int .i64 0) := k4.cell p2_3 (by simp; omega)
  have g0_4 : w4.cell? ⟨w2.heap.size, 0, none⟩ = some (.slice ga 2 2) := k4.cell g0_3 (by simp)
  have g1_4 : w4.cell? ⟨w2.heap.size, 1, none⟩ = some (.slice gb 2 2) := k4.cell g1_3 (by simp)
  have g2_4 : w4.cell? ⟨w2.heap.size, 2, none⟩ = some (.int .i64 0) := k4.cell g2_3 (by simp)
  clear p0_3 p1_3 p2_3 g0_3 g1_3 g2_3
  have z4 := k4.size
  have OP4 := Lib.hid (OP3.out.chg k4 (fun b h1 h2 => by simp; omega)); clear OP3
  have N4 := Lib.hid (Chg.new (N2.out.trans K3.out) k4 (fun i hi => by have := N1.out.size; simp at hi; omega)); clear k4
  go_wp2_with fail
  refine (heldDesk_any _ _ _ _ _ _ _ _ _ O4.out.1.ints O4.out.2.1.ints (by omega) (by decide)).mono ?_
  rintro e w5 ⟨rfl, n5⟩
  have p0_5 : w5.cell? ⟨w1.heap.size, 0, none⟩ = some (.slice pa 2 2) := n5.cell p0_4
  have p1_5 : w5.cell? ⟨w1.heap.size, 1, none⟩ = some (.slice pb 2 2) := n5.cell p1_4
  have p2_5 : w5.cell? ⟨w1.heap.size, 2, none⟩ = some (.int .i64 0) := n5.cell p2_4
  have g0_5 : w5.cell? ⟨w2.heap.size, 0, none⟩ = some (.slice ga 2 2) := n5.cell g0_4
  have g1_5 : w5.cell? ⟨w2.heap.size, 1, none⟩ = some (.slice gb 2 2) := n5.cell g1_4
  have g2_5 : w5.cell? ⟨w2.heap.size, 2, none⟩ = some (.int .i64 0) := n5.cell g2_4
  clear p0_4 p1_4 p2_4 g0_4 g1_4 g2_4
  have z5 := n5.size
  have OG5 := Lib.hid (O4.out.new n5); clear O4
  have OP5 := Lib.hid (OP4.out.new n5); clear OP4
  have N5 := Lib.hid (N4.out.trans n5); clear n5
  go_wp2_with fail
  refine (iFirstDesk_any _).mono ?_
  rintro e w6 ⟨fa, fb, rfl, of, n6⟩
  have p0_6 : w6.cell? ⟨w1.heap.size, 0, none⟩ = some (.slice pa 2 2) := n6.cell p0_5
  have p1_6 : w6.cell? ⟨w1.heap.size, 1, none⟩ = some (.slice pb 2 2) := n6.cell p1_5
  have p2_6 : w6.cell? ⟨w1.heap.size, 2, none⟩ = some (.int .i64 0) := n6.cell p2_5
  have g0_6 : w6.cell? ⟨w2.heap.size, 0, none⟩ = some (.slice ga 2 2) := n6.cell g0_5
  have g1_6 : w6.cell? ⟨w2.heap.size, 1, none⟩ = some (.slice gb 2 2) := n6.cell g1_5
  have g2_6 : w6.cell? ⟨w2.heap.size, 2, none⟩ = some (.int .i64 0) := n6.cell g2_5
  clear p0_5 p1_5 p2_5 g0_5 g1_5 g2_5
  have z6 := n6.size
  have zp6 : w1.heap.size < w6.heap.size := by omega
  have zg6 : w2.heap.size < w6.heap.size := by omega
  have OF := Lib.hid of; clear of
  have OG6 := Lib.hid (OG5.out.new n6); clear OG5
  have OP6 := Lib.hid (OP5.out.new n6); clear OP5
  have N6 := Lib.hid (N5.out.trans n6); clear n6
  go_wp2_with fail
  refine (eqDesk_same _ _ _ _ _ _ _ _ _ _ _ _ _ [3, 5] [0, 5] 0 (OF.out.1.ints.new (by repeat (first | with_reducible exact New.refl _ | with_reducible assumption | refine New.drewN ?_ _ | refine New.drew ?_ | refine New.alloc ?_ _ | refine New.setCell ?_ (by first | omega | (simp; omega) | (simp; done)) _ | (refine New.trans ?_ (by assumption))))) (OF.out.2.1.ints.new (by repeat (first | with_reducible exact New.refl _ | with_reducible assumption | refine New.drewN ?_ _ | refine New.drew ?_ | refine New.alloc ?_ _ | refine New.setCell ?_ (by first | omega | (simp; omega) | (simp; done)) _ | (refine New.trans ?_ (by assumption))))) (OP6.out.1.ints.new (by repeat (first | with_reducible exact New.refl _ | with_reducible assumption | refine New.drewN ?_ _ | refine New.drew ?_ | refine New.alloc ?_ _ | refine New.setCell ?_ (by first | omega | (simp; omega) | (simp; done)) _ | (refine New.trans ?_ (by assumption))))) (OP6.out.2.1.ints.new (by repeat (first | with_reducible exact New.refl _ | with_reducible assumption | refine New.drewN ?_ _ | refine New.drew ?_ | refine New.alloc ?_ _ | refine New.setCell ?_ (by first | omega | (simp; omega) | (simp; done)) _ | (refine New.trans ?_ (by assumption)))))).mono ?_
  rintro e w7 ⟨rfl, n7⟩
  have g0_7 : w7.cell? ⟨w2.heap.size, 0, none⟩ = some (.slice ga 2 2) := n7.cell (World.cell_kept g0_6)
  have g1_7 : w7.cell? ⟨w2.heap.size, 1, none⟩ = some (.slice gb 2 2) := n7.cell (World.cell_kept g1_6)
  have g2_7 : w7.cell? ⟨w2.heap.size, 2, none⟩ = some (.int .i64 0) := n7.cell (World.cell_kept g2_6)
  clear p0_6 p1_6 p2_6 g0_6 g1_6 g2_6
  have OG7 := Lib.hid (OG6.out.new (New.trans (by repeat (first | with_reducible exact New.refl _ | with_reducible assumption | refine New.drewN ?_ _ | refine New.drew ?_ | refine New.alloc ?_ _ | refine New.setCell ?_ (by first | omega | (simp; omega) | (simp; done)) _ | (refine New.trans ?_ (by assumption)))) n7)); clear OG6
  have N7 := Lib.hid (N6.out.trans (New.trans (by repeat (first | with_reducible exact New.refl _ | with_reducible assumption | refine New.drewN ?_ _ | refine New.drew ?_ | refine New.alloc ?_ _ | refine New.setCell ?_ (by first | omega | (simp; omega) | (simp; done)) _ | (refine New.trans ?_ (by assumption)))) n7)); clear n7
  go_wp2_with fail
  refine (heldDesk_any _ _ _ _ _ _ _ _ _ OG7.out.1.ints OG7.out.2.1.ints (by omega) (by decide)).mono ?_
  rintro e w8 ⟨rfl, n8⟩
  go_wp2
  go_ret
  exact ⟨rfl, N7.out.trans n8⟩
end Go.Proofs.Ythnhckccmfjcmaa
