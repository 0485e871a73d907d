/- The law of RunShips: its walk. -/
import Derived.Test.YtmhcnomkkjgidaaDoorUfS
import Derived.Test.YtmhcnomkkjgidaaDoorUfI
import Derived.Test.YtmhcnomkkjgidaaDoorMarkF
import Derived.Deep.RegionHeld3
import Derived.Deep.DeepCutAuto
namespace Go.Proofs.YtmhcnomkkjgidaaDoor
open Go.RowKit

set_option maxRecDepth 100000 in
set_option maxHeartbeats 20000000 in
theorem law_RunShips (w : World) (aa ab : Option Addr) (n m ca cb : Nat) (S : List Int) (H : List Bool) (x0 : ByteArray) (hz0 : x0.size ≤ maxLen) (h1 : Ints w aa n ca S) (h2 : Bools w ab m cb H) (hR1 : ((rssM S H x0).1).length ≤ 1048576) (hR2 : ((rssM S H x0).2).length ≤ 1048576) :
    Calls Tryd.prog 4 #[.agg #[.slice aa n ca, .slice ab m cb], .string x0] w fun e w' => e = .returned (.bool true) ∧ New w w' := by
  have HA := Lib.hid h1; clear h1
  have HB := Lib.hid h2; clear h2
  have L1 := Lib.hid hR1; clear hR1
  have L2 := Lib.hid hR2; clear hR2
  unfold maxLen at hz0
  go_enter Tryd.func4, Tryd.ntmps4
  by_cases hn0 : 1048576 < (x0.size : Int)
  case pos =>
    go_wp2
    go_ret
    exact ⟨rfl, (by repeat (first | with_reducible exact New.refl _ | with_reducible assumption | refine New.drewN ?_ _ | refine New.drew ?_ | refine New.alloc ?_ _ | refine New.setCell ?_ (by first | omega | (simp; omega) | (simp; done)) _ | (refine New.trans ?_ (by assumption))))⟩
  replace hn0 : x0.size ≤ 1048576 := by omega
  go_wp2_with fail
  refine (szFlight_any _ _ _ n m _ _ _ HA.out.2.2.1 HB.out.2.2.1 (by omega) (by omega)).mono ?_
  rintro e w1 ⟨r, rfl, g1, g2, g3, n1⟩
  have G3 := Lib.hid g3; clear g3
  have a0_1 : w1.cell? ⟨w.heap.size, 0, none⟩ = some (.slice aa n ca) := n1.cell (by simp [go_sem])
  have a1_1 : w1.cell? ⟨w.heap.size, 1, none⟩ = some (.slice ab m cb) := n1.cell (by simp [go_sem])
  have N1 := Lib.hid (show New w w1 from New.trans (by repeat (first | with_reducible exact New.refl _ | with_reducible assumption | refine New.drewN ?_ _ | refine New.drew ?_ | refine New.alloc ?_ _ | refine New.setCell ?_ (by first | omega | (simp; omega) | (simp; done)) _ | (refine New.trans ?_ (by assumption)))) n1); clear n1
  have z1 : w.heap.size < w1.heap.size := World.block_lt_of_cell? _ _ a1_1
  by_cases hr : r < 0
  · go_wp2
    go_ret
    exact ⟨rfl, N1.out⟩
  · have hs := (G3.out (by omega)).1
    have hn : n ≤ 1048576 := by omega
    have hm : m ≤ 1048576 := by omega
    clear hs G3
    go_upto_region 7 with fail
    go_cut [6, 7] (fun p q0 W => CutF w1 ((rssM S H x0).1) ((rssM S H x0).2) p W ∧ q0 = .bool (usB S H x0))
    case first =>
      go_wp2_with fail
      (refine (toFlight_any _ _ _ _ _ _ _ S H ?_ ?_ hn hm).mono ?_; exact HA.out.new (N1.out.trans (by repeat (first | with_reducible exact New.refl _ | with_reducible assumption | refine New.drewN ?_ _ | refine New.drew ?_ | refine New.alloc ?_ _ | refine New.setCell ?_ (by first | omega | (simp; omega) | (simp; done)) _ | (refine New.trans ?_ (by assumption))))); exact HB.out.new (N1.out.trans (by repeat (first | with_reducible exact New.refl _ | with_reducible assumption | refine New.drewN ?_ _ | refine New.drew ?_ | refine New.alloc ?_ _ | refine New.setCell ?_ (by first | omega | (simp; omega) | (simp; done)) _ | (refine New.trans ?_ (by assumption))))))
      rintro e w2 ⟨sa, sc, sb, sd, rfl, o2, n2⟩
      have a0_10 : w2.cell? ⟨w.heap.size, 0, none⟩ = some (.slice aa n ca) := n2.cell a0_1
      have a1_10 : w2.cell? ⟨w.heap.size, 1, none⟩ = some (.slice ab m cb) := n2.cell a1_1
      have y0 := n2.size
      go_wp2_with fail
      (refine (sRunShips_any _ _ _ _ _ _ _ S H x0 hn0 ?_ ?_).mono ?_; exact (o2.1.ints.new (by repeat (first | with_reducible exact New.refl _ | with_reducible assumption | refine New.drewN ?_ _ | refine New.drew ?_ | refine New.alloc ?_ _ | refine New.setCell ?_ (by first | omega | (simp; omega) | (simp; done)) _ | (refine New.trans ?_ (by assumption))))); exact (o2.2.1.reads.new (by repeat (first | with_reducible exact New.refl _ | with_reducible assumption | refine New.drewN ?_ _ | refine New.drew ?_ | refine New.alloc ?_ _ | refine New.setCell ?_ (by first | omega | (simp; omega) | (simp; done)) _ | (refine New.trans ?_ (by assumption))))))
      rintro e w4 ⟨ra, rn, rc, rb, rm, rd, rfl, o4, n4⟩
      have a0_11 : w4.cell? ⟨w.heap.size, 0, none⟩ = some (.slice aa n ca) := n4.cell a0_10
      have a1_11 : w4.cell? ⟨w.heap.size, 1, none⟩ = some (.slice ab m cb) := n4.cell a1_10
      have y1 := n4.size
      go_wp2_with fail
      go_meet
      have ov : OwnF w4 w1.heap.size w4.heap.size _ _ _ _ _ _ _ _ := OwnF.mono o4 (by omega) (Nat.le_refl _)
      exact ⟨CutF.mk (BoxF.behind (n2.trans n4) ov), rfl⟩
    case rest =>
      obtain ⟨⟨B, pa, pn, pc, pb, pm, pd, rfl, hbx⟩, rfl⟩ := hcut
      obtain ⟨u1, rfl⟩ : ∃ u : World, u = wc := ⟨_, rfl⟩
      have BX := Lib.hid hbx; clear hbx
      have a0_u1 : u1.cell? ⟨w.heap.size, 0, none⟩ = some (.slice aa n ca) := BX.out.new.cell a0_1
      have a1_u1 : u1.cell? ⟨w.heap.size, 1, none⟩ = some (.slice ab m cb) := BX.out.new.cell a1_1
      have p0_u1 := BX.out.c0
      have p1_u1 := BX.out.c1
      have zB0 := BX.out.lo
      have zB1 := BX.out.hi
      have U1 := Lib.hid (N1.out.trans BX.out.new)
      clear a0_1 a1_1
      go_wp2_with fail
      refine (toFlight_any _ _ _ _ _ _ _ S H (HA.out.new U1.out) (HB.out.new U1.out) hn hm).mono ?_
      rintro e u2 ⟨xa, xc, xb, xd, rfl, ox, n2⟩
      have a0_u2 : u2.cell? ⟨w.heap.size, 0, none⟩ = some (.slice aa n ca) := n2.cell a0_u1
      have a1_u2 : u2.cell? ⟨w.heap.size, 1, none⟩ = some (.slice ab m cb) := n2.cell a1_u1
      have p0_u2 : u2.cell? ⟨B, 0, none⟩ = some (.slice pa pn pc) := n2.cell p0_u1
      have p1_u2 : u2.cell? ⟨B, 1, none⟩ = some (.slice pb pm pd) := n2.cell p1_u1
      have OX := Lib.hid ox; clear ox
      have z2 := n2.size
      have K2 := Lib.hid n2; clear n2 a0_u1 a1_u1 p0_u1 p1_u1
      go_upto_region 9 with fail
      obtain ⟨wb, hwb⟩ : ∃ wb, wb = u2.alloc (.cells #[.slice xa n xc, .slice xb m xd] 28) := ⟨_, rfl⟩
      rw [← hwb]
      have x0_b : wb.cell? ⟨u2.heap.size, 0, none⟩ = some (.slice xa n xc) := by rw [hwb]; simp
      have x1_b : wb.cell? ⟨u2.heap.size, 1, none⟩ = some (.slice xb m xd) := by rw [hwb]; simp
      have a0_b : wb.cell? ⟨w.heap.size, 0, none⟩ = some (.slice aa n ca) := by rw [hwb]; exact World.cell_kept a0_u2
      have a1_b : wb.cell? ⟨w.heap.size, 1, none⟩ = some (.slice ab m cb) := by rw [hwb]; exact World.cell_kept a1_u2
      have p0_b : wb.cell? ⟨B, 0, none⟩ = some (.slice pa pn pc) := by rw [hwb]; exact World.cell_kept p0_u2
      have p1_b : wb.cell? ⟨B, 1, none⟩ = some (.slice pb pm pd) := by rw [hwb]; exact World.cell_kept p1_u2
      have z3 : u2.heap.size < wb.heap.size := by rw [hwb]; simp
      have NB := Lib.hid (show New u2 wb by rw [hwb]; exact (by repeat (first | with_reducible exact New.refl _ | with_reducible assumption | refine New.drewN ?_ _ | refine New.drew ?_ | refine New.alloc ?_ _ | refine New.setCell ?_ (by first | omega | (simp; omega) | (simp; done)) _ | (refine New.trans ?_ (by assumption)))))
      clear hwb a0_u2 a1_u2 p0_u2 p1_u2
      go_cut [9, 10] (fun p q0 W => CutF wb ((rssM S H x0).1) ((rssM S H x0).2) p W ∧ q0 = .bool (usB S H x0))
      case first =>
        go_wp2_with fail
        (refine (iRunShips_any _ _ _ _ _ _ _ S H x0 hn0 ?_ ?_).mono ?_; exact (OX.out.1.ints.new NB.out).new (show New wb _ from (by repeat (first | with_reducible exact New.refl _ | with_reducible assumption | refine New.drewN ?_ _ | refine New.drew ?_ | refine New.alloc ?_ _ | refine New.setCell ?_ (by first | omega | (simp; omega) | (simp; done)) _ | (refine New.trans ?_ (by assumption))))); exact (OX.out.2.1.reads.new NB.out).new (show New wb _ from (by repeat (first | with_reducible exact New.refl _ | with_reducible assumption | refine New.drewN ?_ _ | refine New.drew ?_ | refine New.alloc ?_ _ | refine New.setCell ?_ (by first | omega | (simp; omega) | (simp; done)) _ | (refine New.trans ?_ (by assumption))))))
        rintro e w4 ⟨ra, rn, rc, rb, rm, rd, rfl, o4, n4⟩
        have a0_b0 : w4.cell? ⟨w.heap.size, 0, none⟩ = some (.slice aa n ca) := n4.cell a0_b
        have a1_b0 : w4.cell? ⟨w.heap.size, 1, none⟩ = some (.slice ab m cb) := n4.cell a1_b
        have p0_b0 : w4.cell? ⟨B, 0, none⟩ = some (.slice pa pn pc) := n4.cell p0_b
        have p1_b0 : w4.cell? ⟨B, 1, none⟩ = some (.slice pb pm pd) := n4.cell p1_b
        have x0_b0 : w4.cell? ⟨u2.heap.size, 0, none⟩ = some (.slice xa n xc) := n4.cell x0_b
        have x1_b0 : w4.cell? ⟨u2.heap.size, 1, none⟩ = some (.slice xb m xd) := n4.cell x1_b
        have y0 := n4.size
        go_wp2_with fail
        go_meet
        have ov : OwnF w4 wb.heap.size w4.heap.size _ _ _ _ _ _ _ _ := OwnF.mono o4 (by omega) (Nat.le_refl _)
        exact ⟨CutF.mk (BoxF.behind n4 ov), rfl⟩
      case rest =>
        obtain ⟨⟨C, ga, gn, gc, gb, gm, gd, rfl, hbg⟩, rfl⟩ := hcut
        obtain ⟨u3, rfl⟩ : ∃ u : World, u = wc := ⟨_, rfl⟩
        have BG := Lib.hid hbg; clear hbg
        have a0_u3 : u3.cell? ⟨w.heap.size, 0, none⟩ = some (.slice aa n ca) := BG.out.new.cell a0_b
        have a1_u3 : u3.cell? ⟨w.heap.size, 1, none⟩ = some (.slice ab m cb) := BG.out.new.cell a1_b
        have p0_u3 : u3.cell? ⟨B, 0, none⟩ = some (.slice pa pn pc) := BG.out.new.cell p0_b
        have p1_u3 : u3.cell? ⟨B, 1, none⟩ = some (.slice pb pm pd) := BG.out.new.cell p1_b
        have x0_u3 : u3.cell? ⟨u2.heap.size, 0, none⟩ = some (.slice xa n xc) := BG.out.new.cell x0_b
        have x1_u3 : u3.cell? ⟨u2.heap.size, 1, none⟩ = some (.slice xb m xd) := BG.out.new.cell x1_b
        have g0_u3 := BG.out.c0
        have g1_u3 := BG.out.c1
        have zC0 := BG.out.lo
        have zC1 := BG.out.hi
        clear a0_b a1_b p0_b p1_b x0_b x1_b
        have U3 := Lib.hid (((U1.out.trans K2.out).trans NB.out).trans BG.out.new)
        have OP := Lib.hid (((BX.out.own.new K2.out).new NB.out).new BG.out.new)
        have OX3 := Lib.hid ((OX.out.new NB.out).new BG.out.new)
        have OG := Lib.hid BG.out.own
        have lg := OG.out.len
        have gl1 : gn ≤ 1048576 := by have := L1.out; omega
        have gl2 : gm ≤ 1048576 := by have := L2.out; omega
        clear lg
        go_wp2_with fail
        refine (eqFlight_any _ _ _ _ _ _ _ _ _ _ _ _ _ _ _ _ _ OG.out.1.ints OG.out.2.1.reads OP.out.1.ints OP.out.2.1.reads).mono ?_
        rintro e u4 ⟨rfl, k⟩
        have a0_u4 : u4.cell? ⟨w.heap.size, 0, none⟩ = some (.slice aa n ca) := k.cell a0_u3
        have a1_u4 : u4.cell? ⟨w.heap.size, 1, none⟩ = some (.slice ab m cb) := k.cell a1_u3
        have p0_u4 : u4.cell? ⟨B, 0, none⟩ = some (.slice pa pn pc) := k.cell p0_u3
        have p1_u4 : u4.cell? ⟨B, 1, none⟩ = some (.slice pb pm pd) := k.cell p1_u3
        have x0_u4 : u4.cell? ⟨u2.heap.size, 0, none⟩ = some (.slice xa n xc) := k.cell x0_u3
        have x1_u4 : u4.cell? ⟨u2.heap.size, 1, none⟩ = some (.slice xb m xd) := k.cell x1_u3
        have g0_u4 : u4.cell? ⟨C, 0, none⟩ = some (.slice ga gn gc) := k.cell g0_u3
        have g1_u4 : u4.cell? ⟨C, 1, none⟩ = some (.slice gb gm gd) := k.cell g1_u3
        have Ku4 := Lib.hid k; clear k a0_u3 a1_u3 p0_u3 p1_u3 x0_u3 x1_u3 g0_u3 g1_u3
        go_wp2_with fail
        go_region_held3 (fun w' => w'.cell? ⟨w.heap.size, 0, none⟩ = some (.slice aa n ca) ∧ w'.cell? ⟨w.heap.size, 1, none⟩ = some (.slice ab m cb) ∧ w'.cell? ⟨B, 0, none⟩ = some (.slice pa pn pc) ∧ w'.cell? ⟨B, 1, none⟩ = some (.slice pb pm pd) ∧ w'.cell? ⟨u2.heap.size, 0, none⟩ = some (.slice xa n xc) ∧ w'.cell? ⟨u2.heap.size, 1, none⟩ = some (.slice xb m xd) ∧ w'.cell? ⟨C, 0, none⟩ = some (.slice ga gn gc) ∧ w'.cell? ⟨C, 1, none⟩ = some (.slice gb gm gd))
          (first | exact ⟨a0_u4, a1_u4, p0_u4, p1_u4, x0_u4, x1_u4, g0_u4, g1_u4⟩ | exact ⟨n5.cell (a0_u4), n5.cell (a1_u4), n5.cell (p0_u4), n5.cell (p1_u4), n5.cell (x0_u4), n5.cell (x1_u4), n5.cell (g0_u4), n5.cell (g1_u4)⟩ | exact ⟨n6.cell (n5.cell (a0_u4)), n6.cell (n5.cell (a1_u4)), n6.cell (n5.cell (p0_u4)), n6.cell (n5.cell (p1_u4)), n6.cell (n5.cell (x0_u4)), n6.cell (n5.cell (x1_u4)), n6.cell (n5.cell (g0_u4)), n6.cell (n5.cell (g1_u4))⟩ | fail)
          (first
            | (go_at_call 14; refine (toFlight_any _ _ _ _ _ _ _ S H ?_ ?_ hn hm).mono ?_; exact HA.out.new (U3.out.trans Ku4.out).drew; exact HB.out.new (U3.out.trans Ku4.out).drew; rintro e u5 ⟨ya, yc, yb, yd, rfl, oy, n5⟩)
            | (go_at_call 16; refine (eqFlight_any _ _ _ _ _ _ _ _ _ _ _ _ _ S S H H ?_ ?_ oy.1.ints oy.2.1.reads).mono ?_; exact (OX3.out.1.ints.new Ku4.out).new ((New.refl _).drew.trans n5); exact (OX3.out.2.1.reads.new Ku4.out).new ((New.refl _).drew.trans n5); rintro e u6 ⟨rfl, n6⟩))
        have a0_u6 : u6.cell? ⟨w.heap.size, 0, none⟩ = some (.slice aa n ca) := n6.cell (n5.cell (a0_u4))
        have a1_u6 : u6.cell? ⟨w.heap.size, 1, none⟩ = some (.slice ab m cb) := n6.cell (n5.cell (a1_u4))
        have p0_u6 : u6.cell? ⟨B, 0, none⟩ = some (.slice pa pn pc) := n6.cell (n5.cell (p0_u4))
        have p1_u6 : u6.cell? ⟨B, 1, none⟩ = some (.slice pb pm pd) := n6.cell (n5.cell (p1_u4))
        have x0_u6 : u6.cell? ⟨u2.heap.size, 0, none⟩ = some (.slice xa n xc) := n6.cell (n5.cell (x0_u4))
        have x1_u6 : u6.cell? ⟨u2.heap.size, 1, none⟩ = some (.slice xb m xd) := n6.cell (n5.cell (x1_u4))
        have g0_u6 : u6.cell? ⟨C, 0, none⟩ = some (.slice ga gn gc) := n6.cell (n5.cell (g0_u4))
        have g1_u6 : u6.cell? ⟨C, 1, none⟩ = some (.slice gb gm gd) := n6.cell (n5.cell (g1_u4))
        have V6 := Lib.hid (show New u3 u6 from (Ku4.out.drew.trans n5).trans n6)
        have zs := V6.out.size
        clear n5 n6 oy Ku4 a0_u4 a1_u4 p0_u4 p1_u4 x0_u4 x1_u4 g0_u4 g1_u4
        go_wp2_with fail
        refine (markFlight_any _ u1.heap.size u2.heap.size _ _ _ _ _ _ S H _ (OX3.out.new V6.out) (by omega) (by omega)).mono ?_
        rintro e u7 ⟨rfl, ox7, k7⟩
        have a0_u7 : u7.cell? ⟨w.heap.size, 0, none⟩ = some (.slice aa n ca) := k7.cell a0_u6 (fun h => by simp at h <;> omega)
        have a1_u7 : u7.cell? ⟨w.heap.size, 1, none⟩ = some (.slice ab m cb) := k7.cell a1_u6 (fun h => by simp at h <;> omega)
        have p0_u7 : u7.cell? ⟨B, 0, none⟩ = some (.slice pa pn pc) := k7.cell p0_u6 (fun h => by simp at h <;> omega)
        have p1_u7 : u7.cell? ⟨B, 1, none⟩ = some (.slice pb pm pd) := k7.cell p1_u6 (fun h => by simp at h <;> omega)
        have x0_u7 : u7.cell? ⟨u2.heap.size, 0, none⟩ = some (.slice xa n xc) := k7.cell x0_u6 (fun h => by simp at h <;> omega)
        have x1_u7 : u7.cell? ⟨u2.heap.size, 1, none⟩ = some (.slice xb m xd) := k7.cell x1_u6 (fun h => by simp at h <;> omega)
        have g0_u7 : u7.cell? ⟨C, 0, none⟩ = some (.slice ga gn gc) := k7.cell g0_u6 (fun h => by simp at h <;> omega)
        have g1_u7 : u7.cell? ⟨C, 1, none⟩ = some (.slice gb gm gd) := k7.cell g1_u6 (fun h => by simp at h <;> omega)
        have K7 := Lib.hid k7; clear k7 ox7 a0_u6 a1_u6 p0_u6 p1_u6 x0_u6 x1_u6 g0_u6 g1_u6
        have OG7 := Lib.hid ((OG.out.new V6.out).chg K7.out (fun b h1 h2 h => by omega))
        have OP7 := Lib.hid ((OP.out.new V6.out).chg K7.out (fun b h1 h2 h => by omega))
        have ek : ¬ 1 + (n : Int) + (m : Int) < 0 := by omega
        go_wp2_with fail
        refine (eqFlight_any _ _ _ _ _ _ _ _ _ _ _ _ _ _ _ _ _ OG7.out.1.ints OG7.out.2.1.reads OP7.out.1.ints OP7.out.2.1.reads).mono ?_
        rintro e u8 ⟨rfl, k⟩
        have a0_u8 : u8.cell? ⟨w.heap.size, 0, none⟩ = some (.slice aa n ca) := k.cell a0_u7
        have a1_u8 : u8.cell? ⟨w.heap.size, 1, none⟩ = some (.slice ab m cb) := k.cell a1_u7
        have p0_u8 : u8.cell? ⟨B, 0, none⟩ = some (.slice pa pn pc) := k.cell p0_u7
        have p1_u8 : u8.cell? ⟨B, 1, none⟩ = some (.slice pb pm pd) := k.cell p1_u7
        have x0_u8 : u8.cell? ⟨u2.heap.size, 0, none⟩ = some (.slice xa n xc) := k.cell x0_u7
        have x1_u8 : u8.cell? ⟨u2.heap.size, 1, none⟩ = some (.slice xb m xd) := k.cell x1_u7
        have g0_u8 : u8.cell? ⟨C, 0, none⟩ = some (.slice ga gn gc) := k.cell g0_u7
        have g1_u8 : u8.cell? ⟨C, 1, none⟩ = some (.slice gb gm gd) := k.cell g1_u7
        have Ku8 := Lib.hid k; clear k a0_u7 a1_u7 p0_u7 p1_u7 x0_u7 x1_u7 g0_u7 g1_u7
        go_wp2_with fail
        refine (markFlight_fine _ wb.heap.size u3.heap.size _ _ _ _ _ _ _ _ _ (OG7.out.new Ku8.out) (by omega) (by omega)).mono ?_
        rintro e u9 ⟨rfl, og9, k9⟩
        have a0_u9 : u9.cell? ⟨w.heap.size, 0, none⟩ = some (.slice aa n ca) := k9.cell a0_u8 (fun h => by rcases h with h | h; have := OG.out.1.bounds h.1 h.2; simp at this; omega; have := OG.out.2.1.bounds h.1 h.2; simp at this; omega)
        have a1_u9 : u9.cell? ⟨w.heap.size, 1, none⟩ = some (.slice ab m cb) := k9.cell a1_u8 (fun h => by rcases h with h | h; have := OG.out.1.bounds h.1 h.2; simp at this; omega; have := OG.out.2.1.bounds h.1 h.2; simp at this; omega)
        have p0_u9 : u9.cell? ⟨B, 0, none⟩ = some (.slice pa pn pc) := k9.cell p0_u8 (fun h => by rcases h with h | h; have := OG.out.1.bounds h.1 h.2; simp at this; omega; have := OG.out.2.1.bounds h.1 h.2; simp at this; omega)
        have p1_u9 : u9.cell? ⟨B, 1, none⟩ = some (.slice pb pm pd) := k9.cell p1_u8 (fun h => by rcases h with h | h; have := OG.out.1.bounds h.1 h.2; simp at this; omega; have := OG.out.2.1.bounds h.1 h.2; simp at this; omega)
        have x0_u9 : u9.cell? ⟨u2.heap.size, 0, none⟩ = some (.slice xa n xc) := k9.cell x0_u8 (fun h => by rcases h with h | h; have := OG.out.1.bounds h.1 h.2; simp at this; omega; have := OG.out.2.1.bounds h.1 h.2; simp at this; omega)
        have x1_u9 : u9.cell? ⟨u2.heap.size, 1, none⟩ = some (.slice xb m xd) := k9.cell x1_u8 (fun h => by rcases h with h | h; have := OG.out.1.bounds h.1 h.2; simp at this; omega; have := OG.out.2.1.bounds h.1 h.2; simp at this; omega)
        have g0_u9 : u9.cell? ⟨C, 0, none⟩ = some (.slice ga gn gc) := k9.cell g0_u8 (fun h => by rcases h with h | h; exact BG.out.apa h.1 h.2; exact BG.out.apb h.1 h.2)
        have g1_u9 : u9.cell? ⟨C, 1, none⟩ = some (.slice gb gm gd) := k9.cell g1_u8 (fun h => by rcases h with h | h; exact BG.out.apa h.1 h.2; exact BG.out.apb h.1 h.2)
        have K9 := Lib.hid k9; clear k9 a0_u8 a1_u8 p0_u8 p1_u8 x0_u8 x1_u8 g0_u8 g1_u8
        have OG9 := Lib.hid og9; clear og9
        have OP9 := Lib.hid ((OP7.out.new Ku8.out).chg K9.out (fun b h1 h2 h => by rcases h with h | h; have := OG.out.1.bounds h.1 h.2; omega; have := OG.out.2.1.bounds h.1 h.2; omega))
        go_wp2_with fail
        refine (heldFlight_any _ _ _ _ _ _ _ _ OG9.out.1.ints OG9.out.2.1.reads (by omega) (by omega)).mono ?_
        rintro e u10 ⟨rfl, k10⟩
        have a0_u10 : u10.cell? ⟨w.heap.size, 0, none⟩ = some (.slice aa n ca) := k10.cell a0_u9
        have a1_u10 : u10.cell? ⟨w.heap.size, 1, none⟩ = some (.slice ab m cb) := k10.cell a1_u9
        have p0_u10 : u10.cell? ⟨B, 0, none⟩ = some (.slice pa pn pc) := k10.cell p0_u9
        have p1_u10 : u10.cell? ⟨B, 1, none⟩ = some (.slice pb pm pd) := k10.cell p1_u9
        have x0_u10 : u10.cell? ⟨u2.heap.size, 0, none⟩ = some (.slice xa n xc) := k10.cell x0_u9
        have x1_u10 : u10.cell? ⟨u2.heap.size, 1, none⟩ = some (.slice xb m xd) := k10.cell x1_u9
        have g0_u10 : u10.cell? ⟨C, 0, none⟩ = some (.slice ga gn gc) := k10.cell g0_u9
        have g1_u10 : u10.cell? ⟨C, 1, none⟩ = some (.slice gb gm gd) := k10.cell g1_u9
        have K10 := Lib.hid k10; clear k10 a0_u9 a1_u9 p0_u9 p1_u9 x0_u9 x1_u9 g0_u9 g1_u9
        have eg : ¬ 1 + (gn : Int) + (gm : Int) < 0 := by omega
        have U10 := Lib.hid (show New w u10 from by
          have q6 := U3.out.trans V6.out
          have zz := U1.out.size
          have q7 := Chg.new q6 K7.out (fun i hi => by omega)
          have q8 := q7.trans Ku8.out
          have q9 := Chg.new q8 K9.out (fun i hi => by rcases hi with h | h; have := OG.out.1.bounds h.1 h.2; omega; have := OG.out.2.1.bounds h.1 h.2; omega)
          exact q9.trans K10.out)
        go_upto_region 26 with fail
        go_cut [14, 15] (fun p q0 W => CutF u10 ((rssM S H x0).1) ((rssM S H x0).2) p W ∧ q0 = .bool (usB S H x0))
        case first =>
          have zq : u3.heap.size ≤ u10.heap.size := by have := V6.out.size; have := K7.out.size; have := Ku8.out.size; have := K9.out.size; have := K10.out.size; omega
          go_wp2_with fail
          (refine (toFlight_any _ _ _ _ _ _ _ S H ?_ ?_ hn hm).mono ?_; exact HA.out.new (U10.out.trans (by repeat (first | with_reducible exact New.refl _ | with_reducible assumption | refine New.drewN ?_ _ | refine New.drew ?_ | refine New.alloc ?_ _ | refine New.setCell ?_ (by first | omega | (simp; omega) | (simp; done)) _ | (refine New.trans ?_ (by assumption))))); exact HB.out.new (U10.out.trans (by repeat (first | with_reducible exact New.refl _ | with_reducible assumption | refine New.drewN ?_ _ | refine New.drew ?_ | refine New.alloc ?_ _ | refine New.setCell ?_ (by first | omega | (simp; omega) | (simp; done)) _ | (refine New.trans ?_ (by assumption))))))
          rintro e w2 ⟨sa, sc, sb, sd, rfl, o2, n2⟩
          have a0_u100 : w2.cell? ⟨w.heap.size, 0, none⟩ = some (.slice aa n ca) := n2.cell a0_u10
          have a1_u100 : w2.cell? ⟨w.heap.size, 1, none⟩ = some (.slice ab m cb) := n2.cell a1_u10
          have p0_u100 : w2.cell? ⟨B, 0, none⟩ = some (.slice pa pn pc) := n2.cell p0_u10
          have p1_u100 : w2.cell? ⟨B, 1, none⟩ = some (.slice pb pm pd) := n2.cell p1_u10
          have x0_u100 : w2.cell? ⟨u2.heap.size, 0, none⟩ = some (.slice xa n xc) := n2.cell x0_u10
          have x1_u100 : w2.cell? ⟨u2.heap.size, 1, none⟩ = some (.slice xb m xd) := n2.cell x1_u10
          have g0_u100 : w2.cell? ⟨C, 0, none⟩ = some (.slice ga gn gc) := n2.cell g0_u10
          have g1_u100 : w2.cell? ⟨C, 1, none⟩ = some (.slice gb gm gd) := n2.cell g1_u10
          have y0 := n2.size
          go_wp2_with fail
          (refine (iRunShips_any _ _ _ _ _ _ _ S H x0 hn0 ?_ ?_).mono ?_; exact (o2.1.ints.new (by repeat (first | with_reducible exact New.refl _ | with_reducible assumption | refine New.drewN ?_ _ | refine New.drew ?_ | refine New.alloc ?_ _ | refine New.setCell ?_ (by first | omega | (simp; omega) | (simp; done)) _ | (refine New.trans ?_ (by assumption))))); exact (o2.2.1.reads.new (by repeat (first | with_reducible exact New.refl _ | with_reducible assumption | refine New.drewN ?_ _ | refine New.drew ?_ | refine New.alloc ?_ _ | refine New.setCell ?_ (by first | omega | (simp; omega) | (simp; done)) _ | (refine New.trans ?_ (by assumption))))))
          rintro e w4 ⟨ra, rn, rc, rb, rm, rd, rfl, o4, n4⟩
          have a0_u101 : w4.cell? ⟨w.heap.size, 0, none⟩ = some (.slice aa n ca) := n4.cell a0_u100
          have a1_u101 : w4.cell? ⟨w.heap.size, 1, none⟩ = some (.slice ab m cb) := n4.cell a1_u100
          have p0_u101 : w4.cell? ⟨B, 0, none⟩ = some (.slice pa pn pc) := n4.cell p0_u100
          have p1_u101 : w4.cell? ⟨B, 1, none⟩ = some (.slice pb pm pd) := n4.cell p1_u100
          have x0_u101 : w4.cell? ⟨u2.heap.size, 0, none⟩ = some (.slice xa n xc) := n4.cell x0_u100
          have x1_u101 : w4.cell? ⟨u2.heap.size, 1, none⟩ = some (.slice xb m xd) := n4.cell x1_u100
          have g0_u101 : w4.cell? ⟨C, 0, none⟩ = some (.slice ga gn gc) := n4.cell g0_u100
          have g1_u101 : w4.cell? ⟨C, 1, none⟩ = some (.slice gb gm gd) := n4.cell g1_u100
          have y1 := n4.size
          go_wp2_with fail
          go_meet
          have ov : OwnF w4 u10.heap.size w4.heap.size _ _ _ _ _ _ _ _ := OwnF.mono o4 (by omega) (Nat.le_refl _)
          exact ⟨CutF.mk (BoxF.behind (n2.trans n4) ov), rfl⟩
        case rest =>
          obtain ⟨⟨D, ha, hn0, hc0, hb, hm0, hd0, rfl, hbh⟩, rfl⟩ := hcut
          obtain ⟨u11, rfl⟩ : ∃ u : World, u = wc := ⟨_, rfl⟩
          have BH := Lib.hid hbh; clear hbh
          have a0_u11 : u11.cell? ⟨w.heap.size, 0, none⟩ = some (.slice aa n ca) := BH.out.new.cell a0_u10
          have a1_u11 : u11.cell? ⟨w.heap.size, 1, none⟩ = some (.slice ab m cb) := BH.out.new.cell a1_u10
          have p0_u11 : u11.cell? ⟨B, 0, none⟩ = some (.slice pa pn pc) := BH.out.new.cell p0_u10
          have p1_u11 : u11.cell? ⟨B, 1, none⟩ = some (.slice pb pm pd) := BH.out.new.cell p1_u10
          have x0_u11 : u11.cell? ⟨u2.heap.size, 0, none⟩ = some (.slice xa n xc) := BH.out.new.cell x0_u10
          have x1_u11 : u11.cell? ⟨u2.heap.size, 1, none⟩ = some (.slice xb m xd) := BH.out.new.cell x1_u10
          have g0_u11 : u11.cell? ⟨C, 0, none⟩ = some (.slice ga gn gc) := BH.out.new.cell g0_u10
          have g1_u11 : u11.cell? ⟨C, 1, none⟩ = some (.slice gb gm gd) := BH.out.new.cell g1_u10
          have h0_u11 := BH.out.c0
          have h1_u11 := BH.out.c1
          clear a0_u10 a1_u10 p0_u10 p1_u10 x0_u10 x1_u10 g0_u10 g1_u10
          have OH := Lib.hid BH.out.own
          have OP11 := Lib.hid ((OP9.out.new K10.out).new BH.out.new)
          have OG11 := Lib.hid ((OG9.out.new K10.out).new BH.out.new)
          go_wp2_with fail
          refine (eqFlight_any _ _ _ _ _ _ _ _ _ _ _ _ _ _ _ _ _ OH.out.1.ints OH.out.2.1.reads OP11.out.1.ints OP11.out.2.1.reads).mono ?_
          rintro e u12 ⟨rfl, k⟩
          have a0_u12 : u12.cell? ⟨w.heap.size, 0, none⟩ = some (.slice aa n ca) := k.cell a0_u11
          have a1_u12 : u12.cell? ⟨w.heap.size, 1, none⟩ = some (.slice ab m cb) := k.cell a1_u11
          have p0_u12 : u12.cell? ⟨B, 0, none⟩ = some (.slice pa pn pc) := k.cell p0_u11
          have p1_u12 : u12.cell? ⟨B, 1, none⟩ = some (.slice pb pm pd) := k.cell p1_u11
          have x0_u12 : u12.cell? ⟨u2.heap.size, 0, none⟩ = some (.slice xa n xc) := k.cell x0_u11
          have x1_u12 : u12.cell? ⟨u2.heap.size, 1, none⟩ = some (.slice xb m xd) := k.cell x1_u11
          have g0_u12 : u12.cell? ⟨C, 0, none⟩ = some (.slice ga gn gc) := k.cell g0_u11
          have g1_u12 : u12.cell? ⟨C, 1, none⟩ = some (.slice gb gm gd) := k.cell g1_u11
          have h0_u12 : u12.cell? ⟨D, 0, none⟩ = some (.slice ha hn0 hc0) := k.cell h0_u11
          have h1_u12 : u12.cell? ⟨D, 1, none⟩ = some (.slice hb hm0 hd0) := k.cell h1_u11
          have Ku12 := Lib.hid k; clear k a0_u11 a1_u11 p0_u11 p1_u11 x0_u11 x1_u11 g0_u11 g1_u11 h0_u11 h1_u11
          go_wp2_with fail
          refine (heldFlight_any _ _ _ _ _ _ _ _ (OG11.out.new Ku12.out).1.ints (OG11.out.new Ku12.out).2.1.reads (by omega) (by omega)).mono ?_
          rintro e u13 ⟨rfl, k13⟩
          go_wp2
          go_ret
          exact ⟨rfl, ((U10.out.trans BH.out.new).trans Ku12.out).trans k13⟩
end Go.Proofs.YtmhcnomkkjgidaaDoor
