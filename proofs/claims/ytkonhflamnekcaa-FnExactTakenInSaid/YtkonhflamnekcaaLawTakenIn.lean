/- The law of TakenIn: its walk. -/
import Derived.Test.YtkonhflamnekcaaTakenI
import Derived.Test.YtkonhflamnekcaaTakenS
import Derived.Test.YtkonhflamnekcaaMovesTo
import Derived.Deep.RegionHeld3
namespace Go.Proofs.Ytkonhflamnekcaa
open Go.RowKit

set_option maxRecDepth 100000 in
set_option maxHeartbeats 20000000 in
theorem law_TakenIn (w : World) (aa ab : Option Addr) (n m ca cb : Nat) (S H : List Int) (ma : Option Addr) (mn mc : Nat) (L : List (Int × Int)) (h1 : Ints w aa n ca S) (h2 : Ints w ab m cb H) (h3 : Pairs w ma mn mc L) :
    Calls Try.prog 5 #[.agg #[.slice aa n ca, .slice ab m cb], .slice ma mn mc] w fun e w' => e = .returned (.bool true) ∧ New w w' := by
  have HA := Lib.hid h1; clear h1
  have HB := Lib.hid h2; clear h2
  have HM := Lib.hid h3; clear h3
  go_enter Try.func5, Try.ntmps5
  go_wp2_with fail
  refine (szVessels_any _ _ _ n m _ _ _ HA.out.2.2.1 HB.out.2.2.1 (by omega) (by omega)).mono ?_
  rintro e w1 ⟨r, rfl, g1, g2, g3, n1⟩
  have G3 := Lib.hid g3; clear g3
  have a0_1 : w1.cell? ⟨w.heap.size, 0, none⟩ = some (.slice aa n ca) := n1.cell (by simp [go_sem])
  have a1_1 : w1.cell? ⟨w.heap.size, 1, none⟩ = some (.slice ab m cb) := n1.cell (by simp [go_sem])
  have N1 := Lib.hid (show New w w1 from New.trans (by repeat (first | with_reducible exact New.refl _ | with_reducible assumption | refine New.drewN ?_ _ | refine New.drew ?_ | refine New.alloc ?_ _ | refine New.setCell ?_ (by first | omega | (simp; omega) | (simp; done)) _ | (refine New.trans ?_ (by assumption)))) n1); clear n1
  by_cases hr : r < 0
  · go_wp2
    go_ret
    exact ⟨rfl, N1.out⟩
  · have hs := (G3.out (by omega)).1
    have hn : n ≤ 1048576 := by omega
    have hm : m ≤ 1048576 := by omega
    clear hs G3
    go_wp2_with fail
    refine (szMoveS_any _ _ mn _ _ HM.out.2.2.1 (by omega) (by omega)).mono ?_
    rintro e w9 ⟨r2, rfl, q1, q2, q3, rfl⟩
    have Q3 := Lib.hid q3; clear q3
    by_cases hr2 : r2 < 0
    · go_wp2
      go_ret
      exact ⟨rfl, N1.out⟩
    · have hs := (Q3.out (by omega)).1
      have hmn : mn ≤ 1048576 := by omega
      clear hs Q3
      go_wp2_with fail
      refine (toVessels_any _ _ _ _ _ _ _ S H (HA.out.new N1.out) (HB.out.new N1.out) hn hm).mono ?_
      rintro e wa ⟨sa, sc, sb, sd, rfl, oa, na⟩
      have a0_a : wa.cell? ⟨w.heap.size, 0, none⟩ = some (.slice aa n ca) := na.cell a0_1
      have a1_a : wa.cell? ⟨w.heap.size, 1, none⟩ = some (.slice ab m cb) := na.cell a1_1
      have OA := Lib.hid oa
      have NA := Lib.hid (N1.out.trans na); clear oa na a0_1 a1_1
      go_wp2_with fail
      refine (toMoveS_any _ _ _ _ L (HM.out.new NA.out) hmn).mono ?_
      rintro e wc ⟨pa, pc, rfl, op, nc⟩
      have a0_c : wc.cell? ⟨w.heap.size, 0, none⟩ = some (.slice aa n ca) := nc.cell a0_a
      have a1_c : wc.cell? ⟨w.heap.size, 1, none⟩ = some (.slice ab m cb) := nc.cell a1_a
      have OP := Lib.hid op
      have OC := Lib.hid (OA.out.new nc)
      have NC := Lib.hid (NA.out.trans nc); clear op nc a0_a a1_a
      go_wp2_with fail
      refine (sTakenIn_any _ _ _ _ _ _ _ S H _ _ _ L OC.out.1.ints OC.out.2.1.ints OP.out.pairs).mono ?_
      rintro e u1 ⟨rfl, nb⟩
      have a0_u1 : u1.cell? ⟨w.heap.size, 0, none⟩ = some (.slice aa n ca) := nb.cell a0_c
      have a1_u1 : u1.cell? ⟨w.heap.size, 1, none⟩ = some (.slice ab m cb) := nb.cell a1_c
      have U1 := Lib.hid (NC.out.trans nb); clear nb OA OC OP a0_c a1_c
      go_wp2_with fail
      refine (toVessels_any _ _ _ _ _ _ _ S H (HA.out.new U1.out) (HB.out.new U1.out) hn hm).mono ?_
      rintro e u2 ⟨xa, xc, xb, xd, rfl, ox, n2⟩
      have a0_u2 : u2.cell? ⟨w.heap.size, 0, none⟩ = some (.slice aa n ca) := n2.cell a0_u1
      have a1_u2 : u2.cell? ⟨w.heap.size, 1, none⟩ = some (.slice ab m cb) := n2.cell a1_u1
      have OX := Lib.hid ox
      have K2 := Lib.hid (U1.out.trans n2); clear ox n2 a0_u1 a1_u1
      go_upto_region 10 with fail
      obtain ⟨wb, hwb⟩ : ∃ wb, wb = u2.alloc (.cells #[.slice xa n xc, .slice xb m xd] 28) := ⟨_, rfl⟩
      rw [← hwb]
      have x0_b : wb.cell? ⟨u2.heap.size, 0, none⟩ = some (.slice xa n xc) := by rw [hwb]; simp
      have x1_b : wb.cell? ⟨u2.heap.size, 1, none⟩ = some (.slice xb m xd) := by rw [hwb]; simp
      have a0_b : wb.cell? ⟨w.heap.size, 0, none⟩ = some (.slice aa n ca) := by rw [hwb]; exact World.cell_kept a0_u2
      have a1_b : wb.cell? ⟨w.heap.size, 1, none⟩ = some (.slice ab m cb) := by rw [hwb]; exact World.cell_kept a1_u2
      have NB := Lib.hid (show New u2 wb by rw [hwb]; exact (by repeat (first | with_reducible exact New.refl _ | with_reducible assumption | refine New.drewN ?_ _ | refine New.drew ?_ | refine New.alloc ?_ _ | refine New.setCell ?_ (by first | omega | (simp; omega) | (simp; done)) _ | (refine New.trans ?_ (by assumption)))))
      clear hwb a0_u2 a1_u2
      go_wp2_with fail
      refine (toMoveS_any _ _ _ _ L (HM.out.new (K2.out.trans NB.out)) hmn).mono ?_
      rintro e wd ⟨ya, yc, rfl, oy, nd⟩
      have a0_d : wd.cell? ⟨w.heap.size, 0, none⟩ = some (.slice aa n ca) := nd.cell a0_b
      have a1_d : wd.cell? ⟨w.heap.size, 1, none⟩ = some (.slice ab m cb) := nd.cell a1_b
      have x0_d : wd.cell? ⟨u2.heap.size, 0, none⟩ = some (.slice xa n xc) := nd.cell x0_b
      have x1_d : wd.cell? ⟨u2.heap.size, 1, none⟩ = some (.slice xb m xd) := nd.cell x1_b
      have OY := Lib.hid oy
      have ND := Lib.hid (NB.out.trans nd); clear oy nd a0_b a1_b x0_b x1_b
      go_wp2_with fail
      refine (iTakenIn_any _ _ _ _ _ _ _ S H _ _ _ L (OX.out.1.ints.new ND.out) (OX.out.2.1.ints.new ND.out) OY.out.pairs).mono ?_
      rintro e u4 ⟨rfl, n3⟩
      have a0_u4 : u4.cell? ⟨w.heap.size, 0, none⟩ = some (.slice aa n ca) := n3.cell a0_d
      have a1_u4 : u4.cell? ⟨w.heap.size, 1, none⟩ = some (.slice ab m cb) := n3.cell a1_d
      have x0_u4 : u4.cell? ⟨u2.heap.size, 0, none⟩ = some (.slice xa n xc) := n3.cell x0_d
      have x1_u4 : u4.cell? ⟨u2.heap.size, 1, none⟩ = some (.slice xb m xd) := n3.cell x1_d
      have N4 := Lib.hid (ND.out.trans n3)
      have OY4 := Lib.hid (OY.out.new n3); clear n3 a0_d a1_d x0_d x1_d
      have U4 := Lib.hid (K2.out.trans N4.out)
      go_wp2_with fail
      go_region_held3 (fun w' => w'.cell? ⟨w.heap.size, 0, none⟩ = some (.slice aa n ca) ∧ w'.cell? ⟨w.heap.size, 1, none⟩ = some (.slice ab m cb) ∧ w'.cell? ⟨u2.heap.size, 0, none⟩ = some (.slice xa n xc) ∧ w'.cell? ⟨u2.heap.size, 1, none⟩ = some (.slice xb m xd))
        (first | exact ⟨a0_u4, a1_u4, x0_u4, x1_u4⟩ | exact ⟨n5.cell (a0_u4), n5.cell (a1_u4), n5.cell (x0_u4), n5.cell (x1_u4)⟩ | exact ⟨n6.cell (n5.cell (a0_u4)), n6.cell (n5.cell (a1_u4)), n6.cell (n5.cell (x0_u4)), n6.cell (n5.cell (x1_u4))⟩ | fail)
        (first
          | (go_at_call 14; refine (toVessels_any _ _ _ _ _ _ _ S H ?_ ?_ hn hm).mono ?_; exact HA.out.new U4.out.drew; exact HB.out.new U4.out.drew; rintro e u5 ⟨ra, rc, rb, rd, rfl, oz, n5⟩)
          | (go_at_call 17; refine (eqVessels_any _ _ _ _ _ _ _ _ _ _ _ _ _ S H S H ?_ ?_ oz.1.ints oz.2.1.ints).mono ?_; exact (OX.out.1.ints.new N4.out).new ((New.refl _).drew.trans n5); exact (OX.out.2.1.ints.new N4.out).new ((New.refl _).drew.trans n5); rintro e u6 ⟨rfl, n6⟩))
      have N6 := Lib.hid (show New u4 u6 from ((New.refl u4).drew.trans n5).trans n6)
      clear n5 n6 oz a0_u4 a1_u4 x0_u4 x1_u4
      go_wp2_with fail
      refine (toMoveS_any _ _ _ _ L (HM.out.new (U4.out.trans N6.out)) hmn).mono ?_
      rintro e u7 ⟨ta, tc, rfl, ot, n7⟩
      have OT := Lib.hid ot
      have N7 := Lib.hid (N6.out.trans n7); clear n7 ot
      go_wp2_with fail
      refine (eqMoveS_any _ _ _ _ _ _ _ _ _ (OY4.out.new N7.out).pairs OT.out.pairs).mono ?_
      rintro e u8 ⟨rfl, n8⟩
      go_wp2
      go_ret
      exact ⟨rfl, (U4.out.trans N7.out).trans n8⟩
end Go.Proofs.Ytkonhflamnekcaa
