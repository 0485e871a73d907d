/- The law of StatesAlong: its walk. -/
import Derived.Test.YtkonhflamnekcaaStates
import Derived.Test.YtkonhflamnekcaaMovesTo
import Derived.Test.YtkonhflamnekcaaMarkV
import Derived.Deep.RegionHeld3
namespace Go.Proofs.Ytkonhflamnekcaa
open Go.RowKit

set_option maxRecDepth 100000 in
set_option maxHeartbeats 20000000 in
theorem law_StatesAlong (w : World) (aa ab : Option Addr) (n m ca cb : Nat) (S H : List Int) (ma : Option Addr) (mn mc : Nat) (L : List (Int × Int)) (h1 : Ints w aa n ca S) (h2 : Ints w ab m cb H) (h3 : Pairs w ma mn mc L) :
    Calls Try.prog 4 #[.agg #[.slice aa n ca, .slice ab m cb], .slice ma mn mc] w fun e w' => e = .returned (.bool true) ∧ New w w' := by
  have HA := Lib.hid h1; clear h1
  have HB := Lib.hid h2; clear h2
  have HM := Lib.hid h3; clear h3
  go_enter Try.func4, Try.ntmps4
  go_wp2_with fail
  refine (szVessels_any _ _ _ n m _ _ _ HA.out.2.2.1 HB.out.2.2.1 (by omega) (by omega)).mono ?_
  rintro e w1 ⟨r, rfl, g1, g2, g3, n1⟩
  have G3 := Lib.hid g3; clear g3
  have a0_1 : w1.cell? ⟨w.heap.size, 0, none⟩ = some (.slice aa n ca) := n1.cell (by simp [go_sem])
  have a1_1 : w1.cell? ⟨w.heap.size, 1, none⟩ = some (.slice ab m cb) := n1.cell (by simp [go_sem])
  have N1 := Lib.hid (show New w w1 from New.trans (by repeat (first | with_reducible exact New.refl _ | with_reducible assumption | refine New.drewN ?_ _ | refine New.drew ?_ | refine New.alloc ?_ _ | refine New.setCell ?_ (by first | omega | (simp; omega) | (simp; done)) _ | (refine New.trans ?_ (by assumption)))) n1); clear n1
  by_cases hr : r < 0
  · go_wp2
    go_ret
    exact ⟨rfl, N1.out⟩
  · have hs := (G3.out (by omega)).1
    have hn : n ≤ 1048576 := by omega
    have hm : m ≤ 1048576 := by omega
    clear hs G3
    go_wp2_with fail
    refine (szMoveS_any _ _ mn _ _ HM.out.2.2.1 (by omega) (by omega)).mono ?_
    rintro e w9 ⟨r2, rfl, q1, q2, q3, rfl⟩
    have Q3 := Lib.hid q3; clear q3
    by_cases hr2 : r2 < 0
    · go_wp2
      go_ret
      exact ⟨rfl, N1.out⟩
    · have hs := (Q3.out (by omega)).1
      have hmn : mn ≤ 1048576 := by omega
      clear hs Q3
      have z1 : w.heap.size < w1.heap.size := World.block_lt_of_cell? _ _ a0_1
      go_wp2_with fail
      refine (toVessels_any _ _ _ _ _ _ _ S H (HA.out.new N1.out) (HB.out.new N1.out) hn hm).mono ?_
      rintro e p1 ⟨psa, psc, psb, psd, rfl, o1, n1⟩
      have a0_p1 : p1.cell? ⟨w.heap.size, 0, none⟩ = some (.slice aa n ca) := n1.cell a0_1
      have a1_p1 : p1.cell? ⟨w.heap.size, 1, none⟩ = some (.slice ab m cb) := n1.cell a1_1
      have pO := Lib.hid o1
      have pN := Lib.hid n1; clear o1 n1 a0_1 a1_1
      go_wp2_with fail
      refine (toMoveS_any _ _ _ _ L (HM.out.new (N1.out.trans pN.out)) hmn).mono ?_
      rintro e p2 ⟨pma, pmc, rfl, o2, n2⟩
      have a0_p2 : p2.cell? ⟨w.heap.size, 0, none⟩ = some (.slice aa n ca) := n2.cell a0_p1
      have a1_p2 : p2.cell? ⟨w.heap.size, 1, none⟩ = some (.slice ab m cb) := n2.cell a1_p1
      have pP := Lib.hid o2
      have pM := Lib.hid (pN.out.trans n2)
      have pOV := Lib.hid (pO.out.new n2)
      have pZ := Lib.hid (And.intro pN.out.size n2.size); clear o2 n2 a0_p1 a1_p1
      have U2 := Lib.hid (N1.out.trans pM.out)
      go_wp2_with fail
      refine (sStatesAlong_any _ _ _ _ _ _ _ S H _ _ _ L pOV.out.1.ints pOV.out.2.1.ints pP.out.pairs).mono ?_
      rintro e u1 ⟨va, vc, rfl, op, n3⟩
      have a0_u1 : u1.cell? ⟨w.heap.size, 0, none⟩ = some (.slice aa n ca) := n3.cell a0_p2
      have a1_u1 : u1.cell? ⟨w.heap.size, 1, none⟩ = some (.slice ab m cb) := n3.cell a1_p2
      have OP := Lib.hid op
      have Zu1 := n3.size
      have U4 := Lib.hid (U2.out.trans n3); clear op n3 a0_p2 a1_p2
      have zsn := statesN_le S H L
      go_wp2_with fail
      refine (toVessels_any _ _ _ _ _ _ _ S H (HA.out.new U4.out) (HB.out.new U4.out) hn hm).mono ?_
      rintro e u2 ⟨xa, xc, xb, xd, rfl, ox, n2⟩
      have a0_u2 : u2.cell? ⟨w.heap.size, 0, none⟩ = some (.slice aa n ca) := n2.cell a0_u1
      have a1_u2 : u2.cell? ⟨w.heap.size, 1, none⟩ = some (.slice ab m cb) := n2.cell a1_u1
      have OX := Lib.hid ox
      have Zu2 := n2.size
      have U5 := Lib.hid (U4.out.trans n2)
      have K2 := Lib.hid n2; clear ox n2 a0_u1 a1_u1
      go_upto_region 10 with fail
      obtain ⟨b2, hb2⟩ : ∃ q, q = u2.alloc (.cells #[.slice xa n xc, .slice xb m xd] 28) := ⟨_, rfl⟩
      rw [← hb2]
      have x0_b2 : b2.cell? ⟨u2.heap.size, 0, none⟩ = some (.slice xa n xc) := by rw [hb2]; simp
      have x1_b2 : b2.cell? ⟨u2.heap.size, 1, none⟩ = some (.slice xb m xd) := by rw [hb2]; simp
      have a0_b2 : b2.cell? ⟨w.heap.size, 0, none⟩ = some (.slice aa n ca) := by rw [hb2]; exact World.cell_kept a0_u2
      have a1_b2 : b2.cell? ⟨w.heap.size, 1, none⟩ = some (.slice ab m cb) := by rw [hb2]; exact World.cell_kept a1_u2
      have sb2 : u2.heap.size < b2.heap.size := by rw [hb2]; simp
      have Bb2 := Lib.hid (show New u2 b2 by rw [hb2]; exact (New.refl _).alloc _)
      clear hb2 a0_u2 a1_u2
      have U6 := Lib.hid (U5.out.trans Bb2.out)
      go_wp2_with fail
      refine (toMoveS_any _ _ _ _ L (HM.out.new U6.out) hmn).mono ?_
      rintro e u3 ⟨ya, yc, rfl, oy, n3⟩
      have a0_u3 : u3.cell? ⟨w.heap.size, 0, none⟩ = some (.slice aa n ca) := n3.cell a0_b2
      have a1_u3 : u3.cell? ⟨w.heap.size, 1, none⟩ = some (.slice ab m cb) := n3.cell a1_b2
      have x0_u3 : u3.cell? ⟨u2.heap.size, 0, none⟩ = some (.slice xa n xc) := n3.cell x0_b2
      have x1_u3 : u3.cell? ⟨u2.heap.size, 1, none⟩ = some (.slice xb m xd) := n3.cell x1_b2
      have OY := Lib.hid oy
      have Zu3 := n3.size
      have K3 := Lib.hid n3
      have U7 := Lib.hid (U6.out.trans n3); clear oy n3 a0_b2 a1_b2 x0_b2 x1_b2
      go_wp2_with fail
      refine (iStatesAlong_any _ _ _ _ _ _ _ S H _ _ _ L ((OX.out.1.ints.new Bb2.out).new K3.out) ((OX.out.2.1.ints.new Bb2.out).new K3.out) OY.out.pairs).mono ?_
      rintro e u4 ⟨ga, gc, gk, Bd, rfl, og, n4⟩
      have a0_u4 : u4.cell? ⟨w.heap.size, 0, none⟩ = some (.slice aa n ca) := n4.cell a0_u3
      have a1_u4 : u4.cell? ⟨w.heap.size, 1, none⟩ = some (.slice ab m cb) := n4.cell a1_u3
      have x0_u4 : u4.cell? ⟨u2.heap.size, 0, none⟩ = some (.slice xa n xc) := n4.cell x0_u3
      have x1_u4 : u4.cell? ⟨u2.heap.size, 1, none⟩ = some (.slice xb m xd) := n4.cell x1_u3
      have OG9 := Lib.hid og
      have Zu4 := n4.size
      have K4 := Lib.hid n4
      have U9 := Lib.hid (U7.out.trans n4); clear og n4 a0_u3 a1_u3 x0_u3 x1_u3
      have OP9 := Lib.hid ((((OP.out.new K2.out).new Bb2.out).new K3.out).new K4.out)
      have OX9 := Lib.hid (((OX.out.new Bb2.out).new K3.out).new K4.out)
      have OY9 := Lib.hid (OY.out.new K4.out)
      have gk5 := OG9.out.2.1
      obtain ⟨mb0, mb1⟩ := mulc_bd zsn (show 2 * gk ≤ 10 by omega)
      go_wp2_with fail
      refine (eqVesselsS_same _ _ _ _ _ _ _ _ OG9.out.side.read OP9.out.read).mono ?_
      rintro e c1 ⟨rfl, k⟩
      have a0_c1 : c1.cell? ⟨w.heap.size, 0, none⟩ = some (.slice aa n ca) := k.cell a0_u4
      have a1_c1 : c1.cell? ⟨w.heap.size, 1, none⟩ = some (.slice ab m cb) := k.cell a1_u4
      have x0_c1 : c1.cell? ⟨u2.heap.size, 0, none⟩ = some (.slice xa n xc) := k.cell x0_u4
      have x1_c1 : c1.cell? ⟨u2.heap.size, 1, none⟩ = some (.slice xb m xd) := k.cell x1_u4
      have Kc1 := Lib.hid k; clear k a0_u4 a1_u4 x0_u4 x1_u4
      have V1 := Lib.hid (U9.out.trans Kc1.out)
      go_wp2_with fail
      go_region_held3 (fun w' => w'.cell? ⟨w.heap.size, 0, none⟩ = some (.slice aa n ca) ∧ w'.cell? ⟨w.heap.size, 1, none⟩ = some (.slice ab m cb) ∧ w'.cell? ⟨u2.heap.size, 0, none⟩ = some (.slice xa n xc) ∧ w'.cell? ⟨u2.heap.size, 1, none⟩ = some (.slice xb m xd))
        (first | exact ⟨a0_c1, a1_c1, x0_c1, x1_c1⟩ | exact ⟨n5.cell (a0_c1), n5.cell (a1_c1), n5.cell (x0_c1), n5.cell (x1_c1)⟩ | exact ⟨n6.cell (n5.cell (a0_c1)), n6.cell (n5.cell (a1_c1)), n6.cell (n5.cell (x0_c1)), n6.cell (n5.cell (x1_c1))⟩ | fail)
        (first
          | (go_at_call 14; refine (toVessels_any _ _ _ _ _ _ _ S H ?_ ?_ hn hm).mono ?_; exact HA.out.new V1.out.drew; exact HB.out.new V1.out.drew; rintro e u5 ⟨ra, rc, rb, rd, rfl, oz, n5⟩)
          | (go_at_call 17; refine (eqVessels_any _ _ _ _ _ _ _ _ _ _ _ _ _ S H S H ?_ ?_ oz.1.ints oz.2.1.ints).mono ?_; exact (OX9.out.1.ints.new Kc1.out).new ((New.refl _).drew.trans n5); exact (OX9.out.2.1.ints.new Kc1.out).new ((New.refl _).drew.trans n5); rintro e c2 ⟨rfl, n6⟩))
      have a0_c2 : c2.cell? ⟨w.heap.size, 0, none⟩ = some (.slice aa n ca) := n6.cell (n5.cell (a0_c1))
      have a1_c2 : c2.cell? ⟨w.heap.size, 1, none⟩ = some (.slice ab m cb) := n6.cell (n5.cell (a1_c1))
      have x0_c2 : c2.cell? ⟨u2.heap.size, 0, none⟩ = some (.slice xa n xc) := n6.cell (n5.cell (x0_c1))
      have x1_c2 : c2.cell? ⟨u2.heap.size, 1, none⟩ = some (.slice xb m xd) := n6.cell (n5.cell (x1_c1))
      have W2 := Lib.hid (show New u4 c2 from (Kc1.out.drew.trans n5).trans n6)
      clear n5 n6 oz a0_c1 a1_c1 x0_c1 x1_c1
      go_wp2_with fail
      refine (toMoveS_any _ _ _ _ L (HM.out.new (U9.out.trans W2.out)) hmn).mono ?_
      rintro e c3 ⟨ta, tc, rfl, ot, n7⟩
      have a0_c3 : c3.cell? ⟨w.heap.size, 0, none⟩ = some (.slice aa n ca) := n7.cell a0_c2
      have a1_c3 : c3.cell? ⟨w.heap.size, 1, none⟩ = some (.slice ab m cb) := n7.cell a1_c2
      have x0_c3 : c3.cell? ⟨u2.heap.size, 0, none⟩ = some (.slice xa n xc) := n7.cell x0_c2
      have x1_c3 : c3.cell? ⟨u2.heap.size, 1, none⟩ = some (.slice xb m xd) := n7.cell x1_c2
      have OT := Lib.hid ot
      have W3 := Lib.hid (W2.out.trans n7); clear n7 ot a0_c2 a1_c2 x0_c2 x1_c2
      go_wp2_with fail
      refine (eqMoveS_any _ _ _ _ _ _ _ _ _ (OY9.out.new W3.out).pairs OT.out.pairs).mono ?_
      rintro e c4 ⟨rfl, n8⟩
      have a0_c4 : c4.cell? ⟨w.heap.size, 0, none⟩ = some (.slice aa n ca) := n8.cell a0_c3
      have a1_c4 : c4.cell? ⟨w.heap.size, 1, none⟩ = some (.slice ab m cb) := n8.cell a1_c3
      have x0_c4 : c4.cell? ⟨u2.heap.size, 0, none⟩ = some (.slice xa n xc) := n8.cell x0_c3
      have x1_c4 : c4.cell? ⟨u2.heap.size, 1, none⟩ = some (.slice xb m xd) := n8.cell x1_c3
      have W4 := Lib.hid (W3.out.trans n8); clear n8 a0_c3 a1_c3 x0_c3 x1_c3
      have zW := W4.out.size
      have zp := pZ.out.1
      have zq := pZ.out.2
      go_wp2_with fail
      refine (markVessels_any _ u1.heap.size u2.heap.size _ _ _ _ _ _ S H _ (OX9.out.new W4.out) (by omega) (by omega)).mono ?_
      rintro e c5 ⟨rfl, ox5, k5⟩
      have a0_c5 : c5.cell? ⟨w.heap.size, 0, none⟩ = some (.slice aa n ca) := k5.cell a0_c4 (fun h => by simp at h <;> omega)
      have a1_c5 : c5.cell? ⟨w.heap.size, 1, none⟩ = some (.slice ab m cb) := k5.cell a1_c4 (fun h => by simp at h <;> omega)
      have x0_c5 : c5.cell? ⟨u2.heap.size, 0, none⟩ = some (.slice xa n xc) := k5.cell x0_c4 (fun h => by simp at h <;> omega)
      have x1_c5 : c5.cell? ⟨u2.heap.size, 1, none⟩ = some (.slice xb m xd) := k5.cell x1_c4 (fun h => by simp at h <;> omega)
      have K5 := Lib.hid k5; clear k5 ox5 a0_c4 a1_c4 x0_c4 x1_c4
      have z5 := K5.out.size
      have OY5 := Lib.hid ((OY9.out.new W4.out).chg K5.out (fun b h1 h2 h => by omega))
      have OG5 := Lib.hid ((OG9.out.new W4.out).chg K5.out (fun b h1 h2 h => by omega))
      have OP5 := Lib.hid ((OP9.out.new W4.out).chg K5.out (fun b h1 h2 h => by omega))
      go_wp2_with fail
      refine (markMoveS_any _ b2.heap.size u3.heap.size _ _ _ L _ OY5.out (by omega) (by omega)).mono ?_
      rintro e c6 ⟨rfl, oy6, k6⟩
      have a0_c6 : c6.cell? ⟨w.heap.size, 0, none⟩ = some (.slice aa n ca) := k6.cell a0_c5 (fun h => by have := OY.out.bounds h.1 h.2; simp at this; omega)
      have a1_c6 : c6.cell? ⟨w.heap.size, 1, none⟩ = some (.slice ab m cb) := k6.cell a1_c5 (fun h => by have := OY.out.bounds h.1 h.2; simp at this; omega)
      have x0_c6 : c6.cell? ⟨u2.heap.size, 0, none⟩ = some (.slice xa n xc) := k6.cell x0_c5 (fun h => by have := OY.out.bounds h.1 h.2; simp at this; omega)
      have x1_c6 : c6.cell? ⟨u2.heap.size, 1, none⟩ = some (.slice xb m xd) := k6.cell x1_c5 (fun h => by have := OY.out.bounds h.1 h.2; simp at this; omega)
      have K6 := Lib.hid k6; clear k6 oy6 a0_c5 a1_c5 x0_c5 x1_c5
      have z6 := K6.out.size
      have OG6 := Lib.hid (OG5.out.chg K6.out (fun b h1 h2 h => by have := OY.out.bounds h.1 h.2; omega))
      have OP6 := Lib.hid (OP5.out.chg K6.out (fun b h1 h2 h => by have := OY.out.bounds h.1 h.2; omega))
      have ek : ¬ 1 + (n : Int) + (m : Int) + 2 * (mn : Int) < 0 := by omega
      go_wp2_with fail
      refine (eqVesselsS_same _ _ _ _ _ _ _ _ OG6.out.side.read OP6.out.read).mono ?_
      rintro e c7 ⟨rfl, k⟩
      have a0_c7 : c7.cell? ⟨w.heap.size, 0, none⟩ = some (.slice aa n ca) := k.cell a0_c6
      have a1_c7 : c7.cell? ⟨w.heap.size, 1, none⟩ = some (.slice ab m cb) := k.cell a1_c6
      have x0_c7 : c7.cell? ⟨u2.heap.size, 0, none⟩ = some (.slice xa n xc) := k.cell x0_c6
      have x1_c7 : c7.cell? ⟨u2.heap.size, 1, none⟩ = some (.slice xb m xd) := k.cell x1_c6
      have Kc7 := Lib.hid k; clear k a0_c6 a1_c6 x0_c6 x1_c6
      go_wp2_with fail
      refine (markVesselsS_any _ u3.heap.size u4.heap.size _ _ _ _ _ _ _ _ (OG6.out.new Kc7.out) (by omega) (by omega)).mono ?_
      rintro e c8 ⟨rfl, og8, k8⟩
      have z7 := Kc7.out.size
      have a0_c8 : c8.cell? ⟨w.heap.size, 0, none⟩ = some (.slice aa n ca) := k8.cell a0_c7 (fun h => by simp at h <;> omega)
      have a1_c8 : c8.cell? ⟨w.heap.size, 1, none⟩ = some (.slice ab m cb) := k8.cell a1_c7 (fun h => by simp at h <;> omega)
      have x0_c8 : c8.cell? ⟨u2.heap.size, 0, none⟩ = some (.slice xa n xc) := k8.cell x0_c7 (fun h => by simp at h <;> omega)
      have x1_c8 : c8.cell? ⟨u2.heap.size, 1, none⟩ = some (.slice xb m xd) := k8.cell x1_c7 (fun h => by simp at h <;> omega)
      have K8 := Lib.hid k8; clear k8 a0_c7 a1_c7 x0_c7 x1_c7
      have OG8 := Lib.hid og8; clear og8
      have z8 := K8.out.size
      have OP8 := Lib.hid ((OP6.out.new Kc7.out).chg K8.out (fun b h1 h2 h => by omega))
      go_wp2_with fail
      refine (heldVesselsS_any _ _ _ _ _ _ gk5 OG8.out.side.read (by omega) (by omega)).mono ?_
      rintro e c9 ⟨rfl, k9⟩
      have a0_c9 : c9.cell? ⟨w.heap.size, 0, none⟩ = some (.slice aa n ca) := k9.cell a0_c8
      have a1_c9 : c9.cell? ⟨w.heap.size, 1, none⟩ = some (.slice ab m cb) := k9.cell a1_c8
      have x0_c9 : c9.cell? ⟨u2.heap.size, 0, none⟩ = some (.slice xa n xc) := k9.cell x0_c8
      have x1_c9 : c9.cell? ⟨u2.heap.size, 1, none⟩ = some (.slice xb m xd) := k9.cell x1_c8
      have K9 := Lib.hid k9; clear k9 a0_c8 a1_c8 x0_c8 x1_c8
      have eg : ¬ 1 + mulc (statesN S H L) (2 * gk) < 0 := by omega
      have U10 := Lib.hid (show New w c9 from by
        have q4 := U9.out.trans W4.out
        have zz := U2.out.size
        have q5 := Chg.new q4 K5.out (fun i hi => by omega)
        have q6 := Chg.new q5 K6.out (fun i hi => by have := OY.out.bounds hi.1 hi.2; omega)
        have q7 := q6.trans Kc7.out
        have q8 := Chg.new q7 K8.out (fun i hi => by omega)
        exact q8.trans K9.out)
      have OG10 := Lib.hid (OG8.out.new K9.out)
      have OP10 := Lib.hid (OP8.out.new K9.out)
      go_wp2_with fail
      refine (toVessels_any _ _ _ _ _ _ _ S H (HA.out.new U10.out) (HB.out.new U10.out) hn hm).mono ?_
      rintro e h1 ⟨hsa, hsc, hsb, hsd, rfl, o1, n1⟩
      have a0_h1 : h1.cell? ⟨w.heap.size, 0, none⟩ = some (.slice aa n ca) := n1.cell a0_c9
      have a1_h1 : h1.cell? ⟨w.heap.size, 1, none⟩ = some (.slice ab m cb) := n1.cell a1_c9
      have x0_h1 : h1.cell? ⟨u2.heap.size, 0, none⟩ = some (.slice xa n xc) := n1.cell x0_c9
      have x1_h1 : h1.cell? ⟨u2.heap.size, 1, none⟩ = some (.slice xb m xd) := n1.cell x1_c9
      have hO := Lib.hid o1
      have hN := Lib.hid n1; clear o1 n1 a0_c9 a1_c9 x0_c9 x1_c9
      go_wp2_with fail
      refine (toMoveS_any _ _ _ _ L (HM.out.new (U10.out.trans hN.out)) hmn).mono ?_
      rintro e h2 ⟨hma, hmc, rfl, o2, n2⟩
      have a0_h2 : h2.cell? ⟨w.heap.size, 0, none⟩ = some (.slice aa n ca) := n2.cell a0_h1
      have a1_h2 : h2.cell? ⟨w.heap.size, 1, none⟩ = some (.slice ab m cb) := n2.cell a1_h1
      have x0_h2 : h2.cell? ⟨u2.heap.size, 0, none⟩ = some (.slice xa n xc) := n2.cell x0_h1
      have x1_h2 : h2.cell? ⟨u2.heap.size, 1, none⟩ = some (.slice xb m xd) := n2.cell x1_h1
      have hP := Lib.hid o2
      have hM := Lib.hid (hN.out.trans n2)
      have hOV := Lib.hid (hO.out.new n2)
      have hZ := Lib.hid (And.intro hN.out.size n2.size); clear o2 n2 a0_h1 a1_h1 x0_h1 x1_h1
      go_wp2_with fail
      refine (iStatesAlong_any _ _ _ _ _ _ _ S H _ _ _ L hOV.out.1.ints hOV.out.2.1.ints hP.out.pairs).mono ?_
      rintro e d1 ⟨fa, fc, fk, Be, rfl, of, n12⟩
      have a0_d1 : d1.cell? ⟨w.heap.size, 0, none⟩ = some (.slice aa n ca) := n12.cell a0_h2
      have a1_d1 : d1.cell? ⟨w.heap.size, 1, none⟩ = some (.slice ab m cb) := n12.cell a1_h2
      have x0_d1 : d1.cell? ⟨u2.heap.size, 0, none⟩ = some (.slice xa n xc) := n12.cell x0_h2
      have x1_d1 : d1.cell? ⟨u2.heap.size, 1, none⟩ = some (.slice xb m xd) := n12.cell x1_h2
      have OF13 := Lib.hid of
      have K13 := Lib.hid (hM.out.trans n12); clear of n12 a0_h2 a1_h2 x0_h2 x1_h2
      have OP13 := Lib.hid (OP10.out.new K13.out)
      have OG13 := Lib.hid (OG10.out.new K13.out)
      go_wp2_with fail
      refine (eqVesselsS_same _ _ _ _ _ _ _ _ OF13.out.side.read OP13.out.read).mono ?_
      rintro e d2 ⟨rfl, k⟩
      have a0_d2 : d2.cell? ⟨w.heap.size, 0, none⟩ = some (.slice aa n ca) := k.cell a0_d1
      have a1_d2 : d2.cell? ⟨w.heap.size, 1, none⟩ = some (.slice ab m cb) := k.cell a1_d1
      have x0_d2 : d2.cell? ⟨u2.heap.size, 0, none⟩ = some (.slice xa n xc) := k.cell x0_d1
      have x1_d2 : d2.cell? ⟨u2.heap.size, 1, none⟩ = some (.slice xb m xd) := k.cell x1_d1
      have Kd2 := Lib.hid k; clear k a0_d1 a1_d1 x0_d1 x1_d1
      go_wp2_with fail
      refine (heldVesselsS_any _ _ _ _ _ _ gk5 (OG13.out.new Kd2.out).side.read (by omega) (by omega)).mono ?_
      rintro e d3 ⟨rfl, k13⟩
      go_wp2
      go_ret
      exact ⟨rfl, ((U10.out.trans K13.out).trans Kd2.out).trans k13⟩
end Go.Proofs.Ytkonhflamnekcaa
