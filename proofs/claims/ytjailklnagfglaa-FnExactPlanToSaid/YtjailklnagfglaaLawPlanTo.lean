/- The law of PlanTo: its walk. -/
import Derived.Test.YtjailklnagfglaaPtoI
import Derived.Test.YtjailklnagfglaaMarkV
import Derived.Deep.RegionHeld3
namespace Go.Proofs.Ytjailklnagfglaa
open Go.RowKit

set_option maxRecDepth 100000 in
set_option maxHeartbeats 20000000 in
theorem law_PlanTo (w : World) (aa ab : Option Addr) (n m ca cb : Nat) (S H : List Int) (ba bb : Option Addr) (p q cc cd : Nat) (T K : List Int) (x0 : Bool) (h1 : Ints w aa n ca S) (h2 : Ints w ab m cb H) (h3 : Ints w ba p cc T) (h4 : Ints w bb q cd K) (hR : ((ptoM S H T K x0).1).length ≤ 1048576) :
    Calls Try.prog 5 #[.agg #[.slice aa n ca, .slice ab m cb], .agg #[.slice ba p cc, .slice bb q cd], .bool x0] w fun e w' => e = .returned (.bool true) ∧ New w w' := by
  have HA := Lib.hid h1; clear h1
  have HB := Lib.hid h2; clear h2
  have HC := Lib.hid h3; clear h3
  have HD := Lib.hid h4; clear h4
  have LR := Lib.hid hR; clear hR
  go_enter Try.func5, Try.ntmps5
  go_wp2_with fail
  refine (szVessels_any _ _ _ n m _ _ _ HA.out.2.2.1 HB.out.2.2.1 (by omega) (by omega)).mono ?_
  rintro e w1 ⟨r, rfl, g1, g2, g3, n1⟩
  have G3 := Lib.hid g3; clear g3
  have a0_1 : w1.cell? ⟨w.heap.size, 0, none⟩ = some (.slice aa n ca) := n1.cell (by simp [go_sem])
  have a1_1 : w1.cell? ⟨w.heap.size, 1, none⟩ = some (.slice ab m cb) := n1.cell (by simp [go_sem])
  have b0_1 : w1.cell? ⟨w.heap.size + 1, 0, none⟩ = some (.slice ba p cc) := n1.cell (by simp [go_sem])
  have b1_1 : w1.cell? ⟨w.heap.size + 1, 1, none⟩ = some (.slice bb q cd) := n1.cell (by simp [go_sem])
  have N1 := Lib.hid (show New w w1 from New.trans (by repeat (first | with_reducible exact New.refl _ | with_reducible assumption | refine New.drewN ?_ _ | refine New.drew ?_ | refine New.alloc ?_ _ | refine New.setCell ?_ (by first | omega | (simp; omega) | (simp; done)) _ | (refine New.trans ?_ (by assumption)))) n1); clear n1
  by_cases hr : r < 0
  · go_wp2
    go_ret
    exact ⟨rfl, N1.out⟩
  · have hs := (G3.out (by omega)).1
    have hn : n ≤ 1048576 := by omega
    have hm : m ≤ 1048576 := by omega
    clear hs G3
    go_wp2_with fail
    refine (szVessels_any _ _ _ p q _ _ _ HC.out.2.2.1 HD.out.2.2.1 (by omega) (by omega)).mono ?_
    rintro e w2 ⟨s, rfl, g4, g5, g6, n2⟩
    have G6 := Lib.hid g6; clear g6
    have a0_2 : w2.cell? ⟨w.heap.size, 0, none⟩ = some (.slice aa n ca) := n2.cell a0_1
    have a1_2 : w2.cell? ⟨w.heap.size, 1, none⟩ = some (.slice ab m cb) := n2.cell a1_1
    have b0_2 : w2.cell? ⟨w.heap.size + 1, 0, none⟩ = some (.slice ba p cc) := n2.cell b0_1
    have b1_2 : w2.cell? ⟨w.heap.size + 1, 1, none⟩ = some (.slice bb q cd) := n2.cell b1_1
    have N2 := Lib.hid (N1.out.trans n2); clear n2 a0_1 a1_1 b0_1 b1_1
    have zY : w.heap.size + 1 < w2.heap.size := World.block_lt_of_cell? _ _ b0_2
    by_cases hs0 : s < 0
    · go_wp2
      go_ret
      exact ⟨rfl, N2.out⟩
    · have hs := (G6.out (by omega)).1
      have hp : p ≤ 1048576 := by omega
      have hq : q ≤ 1048576 := by omega
      clear hs G6
      go_wp2_with fail
      go_region_held3 (fun w' => w'.cell? ⟨w.heap.size, 0, none⟩ = some (.slice aa n ca) ∧ w'.cell? ⟨w.heap.size, 1, none⟩ = some (.slice ab m cb) ∧ w'.cell? ⟨w.heap.size + 1, 0, none⟩ = some (.slice ba p cc) ∧ w'.cell? ⟨w.heap.size + 1, 1, none⟩ = some (.slice bb q cd))
        (first | exact ⟨a0_2, a1_2, b0_2, b1_2⟩ | exact ⟨n_w3.cell (a0_2), n_w3.cell (a1_2), n_w3.cell (b0_2), n_w3.cell (b1_2)⟩ | exact ⟨n_w4.cell (n_w3.cell (a0_2)), n_w4.cell (n_w3.cell (a1_2)), n_w4.cell (n_w3.cell (b0_2)), n_w4.cell (n_w3.cell (b1_2))⟩ | exact ⟨n_u1.cell (n_w4.cell (n_w3.cell (a0_2))), n_u1.cell (n_w4.cell (n_w3.cell (a1_2))), n_u1.cell (n_w4.cell (n_w3.cell (b0_2))), n_u1.cell (n_w4.cell (n_w3.cell (b1_2)))⟩ | fail)
        (first
          | (go_at_call_of 12 (Value.agg #[Value.slice aa n ca, Value.slice ab m cb]); refine (toVessels_any _ _ _ _ _ _ _ S H ?_ ?_ hn hm).mono ?_; exact HA.out.new N2.out.drew; exact HB.out.new N2.out.drew; rintro e w3 ⟨sa, sc, sb, sd, rfl, o3, n_w3⟩)
          | (go_at_call_of 12 (Value.agg #[Value.slice ba p cc, Value.slice bb q cd]); refine (toVessels_any _ _ _ _ _ _ _ T K ?_ ?_ hp hq).mono ?_; exact HC.out.new (N2.out.drew.trans n_w3); exact HD.out.new (N2.out.drew.trans n_w3); rintro e w4 ⟨ta, tc, tb, td, rfl, o4, n_w4⟩)
          | (go_at_call 17; refine (sPlanTo_any _ _ _ _ _ _ _ _ _ _ _ _ _ S H T K x0 ?_ ?_ ?_ ?_).mono ?_; exact o3.1.ints.new n_w4; exact o3.2.1.ints.new n_w4; exact o4.1.ints; exact o4.2.1.ints; rintro e u1 ⟨pa, pn, pc, rfl, op, n_u1⟩))
      have a0_u1 : u1.cell? ⟨w.heap.size, 0, none⟩ = some (.slice aa n ca) := n_u1.cell (n_w4.cell (n_w3.cell (a0_2)))
      have a1_u1 : u1.cell? ⟨w.heap.size, 1, none⟩ = some (.slice ab m cb) := n_u1.cell (n_w4.cell (n_w3.cell (a1_2)))
      have b0_u1 : u1.cell? ⟨w.heap.size + 1, 0, none⟩ = some (.slice ba p cc) := n_u1.cell (n_w4.cell (n_w3.cell (b0_2)))
      have b1_u1 : u1.cell? ⟨w.heap.size + 1, 1, none⟩ = some (.slice bb q cd) := n_u1.cell (n_w4.cell (n_w3.cell (b1_2)))
      have OP := Lib.hid op
      have Z1 := Lib.hid (show w2.heap.size ≤ u1.heap.size from ((((New.refl w2).drew.trans n_w3).trans n_w4).trans n_u1).size)
      have U1 := Lib.hid (((N2.out.drew.trans n_w3).trans n_w4).trans n_u1); clear o3 o4 n_w3 n_w4 n_u1 a0_2 a1_2 b0_2 b1_2 op
      go_wp2_with fail
      refine (toVessels_any _ _ _ _ _ _ _ S H (HA.out.new U1.out) (HB.out.new U1.out) hn hm).mono ?_
      rintro e u2 ⟨xa, xc, xb, xd, rfl, ox, n2⟩
      have a0_u2 : u2.cell? ⟨w.heap.size, 0, none⟩ = some (.slice aa n ca) := n2.cell a0_u1
      have a1_u2 : u2.cell? ⟨w.heap.size, 1, none⟩ = some (.slice ab m cb) := n2.cell a1_u1
      have b0_u2 : u2.cell? ⟨w.heap.size + 1, 0, none⟩ = some (.slice ba p cc) := n2.cell b0_u1
      have b1_u2 : u2.cell? ⟨w.heap.size + 1, 1, none⟩ = some (.slice bb q cd) := n2.cell b1_u1
      have OX := Lib.hid ox
      have K2 := Lib.hid n2; clear ox n2 a0_u1 a1_u1 b0_u1 b1_u1
      go_upto_region 10 with fail
      obtain ⟨wb, hwb⟩ : ∃ wb, wb = u2.alloc (.cells #[.slice xa n xc, .slice xb m xd] 28) := ⟨_, rfl⟩
      rw [← hwb]
      have x0_b : wb.cell? ⟨u2.heap.size, 0, none⟩ = some (.slice xa n xc) := by rw [hwb]; simp
      have x1_b : wb.cell? ⟨u2.heap.size, 1, none⟩ = some (.slice xb m xd) := by rw [hwb]; simp
      have a0_b : wb.cell? ⟨w.heap.size, 0, none⟩ = some (.slice aa n ca) := by rw [hwb]; exact World.cell_kept a0_u2
      have a1_b : wb.cell? ⟨w.heap.size, 1, none⟩ = some (.slice ab m cb) := by rw [hwb]; exact World.cell_kept a1_u2
      have b0_b : wb.cell? ⟨w.heap.size + 1, 0, none⟩ = some (.slice ba p cc) := by rw [hwb]; exact World.cell_kept b0_u2
      have b1_b : wb.cell? ⟨w.heap.size + 1, 1, none⟩ = some (.slice bb q cd) := by rw [hwb]; exact World.cell_kept b1_u2
      have zx : u2.heap.size < wb.heap.size := by rw [hwb]; simp
      have NB := Lib.hid (show New u2 wb by rw [hwb]; exact (by repeat (first | with_reducible exact New.refl _ | with_reducible assumption | refine New.drewN ?_ _ | refine New.drew ?_ | refine New.alloc ?_ _ | refine New.setCell ?_ (by first | omega | (simp; omega) | (simp; done)) _ | (refine New.trans ?_ (by assumption)))))
      clear hwb a0_u2 a1_u2 b0_u2 b1_u2
      go_wp2_with fail
      refine (toVessels_any _ _ _ _ _ _ _ T K (HC.out.new ((U1.out.trans K2.out).trans NB.out)) (HD.out.new ((U1.out.trans K2.out).trans NB.out)) hp hq).mono ?_
      rintro e u3 ⟨ya, yc, yb, yd, rfl, oy, n3⟩
      have a0_u3 : u3.cell? ⟨w.heap.size, 0, none⟩ = some (.slice aa n ca) := n3.cell a0_b
      have a1_u3 : u3.cell? ⟨w.heap.size, 1, none⟩ = some (.slice ab m cb) := n3.cell a1_b
      have b0_u3 : u3.cell? ⟨w.heap.size + 1, 0, none⟩ = some (.slice ba p cc) := n3.cell b0_b
      have b1_u3 : u3.cell? ⟨w.heap.size + 1, 1, none⟩ = some (.slice bb q cd) := n3.cell b1_b
      have x0_u3 : u3.cell? ⟨u2.heap.size, 0, none⟩ = some (.slice xa n xc) := n3.cell x0_b
      have x1_u3 : u3.cell? ⟨u2.heap.size, 1, none⟩ = some (.slice xb m xd) := n3.cell x1_b
      have OY := Lib.hid oy
      have K3 := Lib.hid n3; clear oy n3 a0_b a1_b b0_b b1_b x0_b x1_b
      go_upto_region 11 with fail
      obtain ⟨wc, hwc⟩ : ∃ wc, wc = u3.alloc (.cells #[.slice ya p yc, .slice yb q yd] 28) := ⟨_, rfl⟩
      rw [← hwc]
      have y0_c : wc.cell? ⟨u3.heap.size, 0, none⟩ = some (.slice ya p yc) := by rw [hwc]; simp
      have y1_c : wc.cell? ⟨u3.heap.size, 1, none⟩ = some (.slice yb q yd) := by rw [hwc]; simp
      have a0_c : wc.cell? ⟨w.heap.size, 0, none⟩ = some (.slice aa n ca) := by rw [hwc]; exact World.cell_kept a0_u3
      have a1_c : wc.cell? ⟨w.heap.size, 1, none⟩ = some (.slice ab m cb) := by rw [hwc]; exact World.cell_kept a1_u3
      have b0_c : wc.cell? ⟨w.heap.size + 1, 0, none⟩ = some (.slice ba p cc) := by rw [hwc]; exact World.cell_kept b0_u3
      have b1_c : wc.cell? ⟨w.heap.size + 1, 1, none⟩ = some (.slice bb q cd) := by rw [hwc]; exact World.cell_kept b1_u3
      have x0_c : wc.cell? ⟨u2.heap.size, 0, none⟩ = some (.slice xa n xc) := by rw [hwc]; exact World.cell_kept x0_u3
      have x1_c : wc.cell? ⟨u2.heap.size, 1, none⟩ = some (.slice xb m xd) := by rw [hwc]; exact World.cell_kept x1_u3
      have zy : u3.heap.size < wc.heap.size := by rw [hwc]; simp
      have NC := Lib.hid (show New u3 wc by rw [hwc]; exact (by repeat (first | with_reducible exact New.refl _ | with_reducible assumption | refine New.drewN ?_ _ | refine New.drew ?_ | refine New.alloc ?_ _ | refine New.setCell ?_ (by first | omega | (simp; omega) | (simp; done)) _ | (refine New.trans ?_ (by assumption)))))
      clear hwc a0_u3 a1_u3 b0_u3 b1_u3 x0_u3 x1_u3
      go_wp2_with fail
      refine (iPlanTo_any _ _ _ _ _ _ _ _ _ _ _ _ _ S H T K x0 (OX.out.1.ints.new ((NB.out.trans K3.out).trans NC.out)) (OX.out.2.1.ints.new ((NB.out.trans K3.out).trans NC.out)) (OY.out.1.ints.new NC.out) (OY.out.2.1.ints.new NC.out)).mono ?_
      rintro e u4 ⟨ga, gn, gc, rfl, og, n4⟩
      have OG := Lib.hid og
      have a0_u4 : u4.cell? ⟨w.heap.size, 0, none⟩ = some (.slice aa n ca) := n4.cell a0_c
      have a1_u4 : u4.cell? ⟨w.heap.size, 1, none⟩ = some (.slice ab m cb) := n4.cell a1_c
      have b0_u4 : u4.cell? ⟨w.heap.size + 1, 0, none⟩ = some (.slice ba p cc) := n4.cell b0_c
      have b1_u4 : u4.cell? ⟨w.heap.size + 1, 1, none⟩ = some (.slice bb q cd) := n4.cell b1_c
      have x0_u4 : u4.cell? ⟨u2.heap.size, 0, none⟩ = some (.slice xa n xc) := n4.cell x0_c
      have x1_u4 : u4.cell? ⟨u2.heap.size, 1, none⟩ = some (.slice xb m xd) := n4.cell x1_c
      have y0_u4 : u4.cell? ⟨u3.heap.size, 0, none⟩ = some (.slice ya p yc) := n4.cell y0_c
      have y1_u4 : u4.cell? ⟨u3.heap.size, 1, none⟩ = some (.slice yb q yd) := n4.cell y1_c
      have K4 := Lib.hid n4; clear n4 a0_c a1_c b0_c b1_c x0_c x1_c y0_c y1_c og
      have U4 := Lib.hid (((((U1.out.trans K2.out).trans NB.out).trans K3.out).trans NC.out).trans K4.out)
      have OX4 := Lib.hid (((OX.out.new NB.out).new K3.out).new (NC.out.trans K4.out))
      have OY4 := Lib.hid (OY.out.new (NC.out.trans K4.out))
      have OP4 := Lib.hid ((((OP.out.new K2.out).new NB.out).new K3.out).new (NC.out.trans K4.out))
      have gl : gn ≤ 1048576 := by have := OG.out.1; have := LR.out; omega
      have zz := Lib.hid (And.intro (And.intro U1.out.size K2.out.size) (And.intro (And.intro NB.out.size K3.out.size) (And.intro NC.out.size K4.out.size)))
      go_wp2_with fail
      refine (eqMoveS_any _ _ _ _ _ _ _ _ _ OG.out.pairs OP4.out.pairs).mono ?_
      rintro e u5 ⟨rfl, k⟩
      have a0_u5 : u5.cell? ⟨w.heap.size, 0, none⟩ = some (.slice aa n ca) := k.cell a0_u4
      have a1_u5 : u5.cell? ⟨w.heap.size, 1, none⟩ = some (.slice ab m cb) := k.cell a1_u4
      have b0_u5 : u5.cell? ⟨w.heap.size + 1, 0, none⟩ = some (.slice ba p cc) := k.cell b0_u4
      have b1_u5 : u5.cell? ⟨w.heap.size + 1, 1, none⟩ = some (.slice bb q cd) := k.cell b1_u4
      have x0_u5 : u5.cell? ⟨u2.heap.size, 0, none⟩ = some (.slice xa n xc) := k.cell x0_u4
      have x1_u5 : u5.cell? ⟨u2.heap.size, 1, none⟩ = some (.slice xb m xd) := k.cell x1_u4
      have y0_u5 : u5.cell? ⟨u3.heap.size, 0, none⟩ = some (.slice ya p yc) := k.cell y0_u4
      have y1_u5 : u5.cell? ⟨u3.heap.size, 1, none⟩ = some (.slice yb q yd) := k.cell y1_u4
      have K5 := Lib.hid k; clear k a0_u4 a1_u4 b0_u4 b1_u4 x0_u4 x1_u4 y0_u4 y1_u4
      go_wp2_with fail
      go_region_held3 (fun w' => w'.cell? ⟨w.heap.size, 0, none⟩ = some (.slice aa n ca) ∧ w'.cell? ⟨w.heap.size, 1, none⟩ = some (.slice ab m cb) ∧ w'.cell? ⟨w.heap.size + 1, 0, none⟩ = some (.slice ba p cc) ∧ w'.cell? ⟨w.heap.size + 1, 1, none⟩ = some (.slice bb q cd) ∧ w'.cell? ⟨u2.heap.size, 0, none⟩ = some (.slice xa n xc) ∧ w'.cell? ⟨u2.heap.size, 1, none⟩ = some (.slice xb m xd) ∧ w'.cell? ⟨u3.heap.size, 0, none⟩ = some (.slice ya p yc) ∧ w'.cell? ⟨u3.heap.size, 1, none⟩ = some (.slice yb q yd))
        (first | exact ⟨a0_u5, a1_u5, b0_u5, b1_u5, x0_u5, x1_u5, y0_u5, y1_u5⟩ | exact ⟨n_v1.cell (a0_u5), n_v1.cell (a1_u5), n_v1.cell (b0_u5), n_v1.cell (b1_u5), n_v1.cell (x0_u5), n_v1.cell (x1_u5), n_v1.cell (y0_u5), n_v1.cell (y1_u5)⟩ | exact ⟨n_v2.cell (n_v1.cell (a0_u5)), n_v2.cell (n_v1.cell (a1_u5)), n_v2.cell (n_v1.cell (b0_u5)), n_v2.cell (n_v1.cell (b1_u5)), n_v2.cell (n_v1.cell (x0_u5)), n_v2.cell (n_v1.cell (x1_u5)), n_v2.cell (n_v1.cell (y0_u5)), n_v2.cell (n_v1.cell (y1_u5))⟩ | fail)
        (first
          | (go_at_call_of 12 (Value.agg #[Value.slice aa n ca, Value.slice ab m cb]); refine (toVessels_any _ _ _ _ _ _ _ S H ?_ ?_ hn hm).mono ?_; exact HA.out.new (U4.out.trans K5.out).drew; exact HB.out.new (U4.out.trans K5.out).drew; rintro e v1 ⟨e1a, e1c, e1b, e1d, rfl, e1o, n_v1⟩)
          | (go_at_call 14; refine (eqVessels_any _ _ _ _ _ _ _ _ _ _ _ _ _ S H S H ?_ ?_ e1o.1.ints e1o.2.1.ints).mono ?_; exact (OX4.out.1.ints.new K5.out).new ((New.refl _).drew.trans n_v1); exact (OX4.out.2.1.ints.new K5.out).new ((New.refl _).drew.trans n_v1); rintro e v2 ⟨rfl, n_v2⟩))
      have a0_v2 : v2.cell? ⟨w.heap.size, 0, none⟩ = some (.slice aa n ca) := n_v2.cell (n_v1.cell (a0_u5))
      have a1_v2 : v2.cell? ⟨w.heap.size, 1, none⟩ = some (.slice ab m cb) := n_v2.cell (n_v1.cell (a1_u5))
      have b0_v2 : v2.cell? ⟨w.heap.size + 1, 0, none⟩ = some (.slice ba p cc) := n_v2.cell (n_v1.cell (b0_u5))
      have b1_v2 : v2.cell? ⟨w.heap.size + 1, 1, none⟩ = some (.slice bb q cd) := n_v2.cell (n_v1.cell (b1_u5))
      have x0_v2 : v2.cell? ⟨u2.heap.size, 0, none⟩ = some (.slice xa n xc) := n_v2.cell (n_v1.cell (x0_u5))
      have x1_v2 : v2.cell? ⟨u2.heap.size, 1, none⟩ = some (.slice xb m xd) := n_v2.cell (n_v1.cell (x1_u5))
      have y0_v2 : v2.cell? ⟨u3.heap.size, 0, none⟩ = some (.slice ya p yc) := n_v2.cell (n_v1.cell (y0_u5))
      have y1_v2 : v2.cell? ⟨u3.heap.size, 1, none⟩ = some (.slice yb q yd) := n_v2.cell (n_v1.cell (y1_u5))
      have V2 := Lib.hid (show New u5 v2 from ((New.refl _).drew.trans n_v1).trans n_v2); clear n_v1 n_v2 e1o a0_u5 a1_u5 b0_u5 b1_u5 x0_u5 x1_u5 y0_u5 y1_u5
      go_wp2_with fail
      go_region_held3 (fun w' => w'.cell? ⟨w.heap.size, 0, none⟩ = some (.slice aa n ca) ∧ w'.cell? ⟨w.heap.size, 1, none⟩ = some (.slice ab m cb) ∧ w'.cell? ⟨w.heap.size + 1, 0, none⟩ = some (.slice ba p cc) ∧ w'.cell? ⟨w.heap.size + 1, 1, none⟩ = some (.slice bb q cd) ∧ w'.cell? ⟨u2.heap.size, 0, none⟩ = some (.slice xa n xc) ∧ w'.cell? ⟨u2.heap.size, 1, none⟩ = some (.slice xb m xd) ∧ w'.cell? ⟨u3.heap.size, 0, none⟩ = some (.slice ya p yc) ∧ w'.cell? ⟨u3.heap.size, 1, none⟩ = some (.slice yb q yd))
        (first | exact ⟨a0_v2, a1_v2, b0_v2, b1_v2, x0_v2, x1_v2, y0_v2, y1_v2⟩ | exact ⟨n_v3.cell (a0_v2), n_v3.cell (a1_v2), n_v3.cell (b0_v2), n_v3.cell (b1_v2), n_v3.cell (x0_v2), n_v3.cell (x1_v2), n_v3.cell (y0_v2), n_v3.cell (y1_v2)⟩ | exact ⟨n_v4.cell (n_v3.cell (a0_v2)), n_v4.cell (n_v3.cell (a1_v2)), n_v4.cell (n_v3.cell (b0_v2)), n_v4.cell (n_v3.cell (b1_v2)), n_v4.cell (n_v3.cell (x0_v2)), n_v4.cell (n_v3.cell (x1_v2)), n_v4.cell (n_v3.cell (y0_v2)), n_v4.cell (n_v3.cell (y1_v2))⟩ | fail)
        (first
          | (go_at_call_of 12 (Value.agg #[Value.slice ba p cc, Value.slice bb q cd]); refine (toVessels_any _ _ _ _ _ _ _ T K ?_ ?_ hp hq).mono ?_; exact HC.out.new ((U4.out.trans K5.out).trans V2.out).drew; exact HD.out.new ((U4.out.trans K5.out).trans V2.out).drew; rintro e v3 ⟨e2a, e2c, e2b, e2d, rfl, e2o, n_v3⟩)
          | (go_at_call 14; refine (eqVessels_any _ _ _ _ _ _ _ _ _ _ _ _ _ T K T K ?_ ?_ e2o.1.ints e2o.2.1.ints).mono ?_; exact ((OY4.out.1.ints.new K5.out).new V2.out).new ((New.refl _).drew.trans n_v3); exact ((OY4.out.2.1.ints.new K5.out).new V2.out).new ((New.refl _).drew.trans n_v3); rintro e v4 ⟨rfl, n_v4⟩))
      have a0_v4 : v4.cell? ⟨w.heap.size, 0, none⟩ = some (.slice aa n ca) := n_v4.cell (n_v3.cell (a0_v2))
      have a1_v4 : v4.cell? ⟨w.heap.size, 1, none⟩ = some (.slice ab m cb) := n_v4.cell (n_v3.cell (a1_v2))
      have b0_v4 : v4.cell? ⟨w.heap.size + 1, 0, none⟩ = some (.slice ba p cc) := n_v4.cell (n_v3.cell (b0_v2))
      have b1_v4 : v4.cell? ⟨w.heap.size + 1, 1, none⟩ = some (.slice bb q cd) := n_v4.cell (n_v3.cell (b1_v2))
      have x0_v4 : v4.cell? ⟨u2.heap.size, 0, none⟩ = some (.slice xa n xc) := n_v4.cell (n_v3.cell (x0_v2))
      have x1_v4 : v4.cell? ⟨u2.heap.size, 1, none⟩ = some (.slice xb m xd) := n_v4.cell (n_v3.cell (x1_v2))
      have y0_v4 : v4.cell? ⟨u3.heap.size, 0, none⟩ = some (.slice ya p yc) := n_v4.cell (n_v3.cell (y0_v2))
      have y1_v4 : v4.cell? ⟨u3.heap.size, 1, none⟩ = some (.slice yb q yd) := n_v4.cell (n_v3.cell (y1_v2))
      have V4 := Lib.hid (show New u4 v4 from ((K5.out.trans V2.out).drew.trans n_v3).trans n_v4); clear n_v3 n_v4 e2o V2 K5 a0_v2 a1_v2 b0_v2 b1_v2 x0_v2 x1_v2 y0_v2 y1_v2
      obtain ⟨⟨zA, zB⟩, ⟨zC, zD⟩, zE, zF⟩ := zz.out
      have zV := V4.out.size
      have zW := Z1.out
      have zX := N2.out.size
      go_wp2_with fail
      refine (markVessels_fine _ u1.heap.size u2.heap.size _ _ _ _ _ _ S H _ (OX4.out.new V4.out) (by omega) (by omega)).mono ?_
      rintro e v5 ⟨rfl, ox5, k5⟩
      have a0_v5 : v5.cell? ⟨w.heap.size, 0, none⟩ = some (.slice aa n ca) := k5.cell a0_v4 (fun h => h.elim (fun h => by have hb := OX.out.b1 h.1 h.2; simp at hb <;> omega) (fun h => by have hb := OX.out.b2 h.1 h.2; simp at hb <;> omega))
      have a1_v5 : v5.cell? ⟨w.heap.size, 1, none⟩ = some (.slice ab m cb) := k5.cell a1_v4 (fun h => h.elim (fun h => by have hb := OX.out.b1 h.1 h.2; simp at hb <;> omega) (fun h => by have hb := OX.out.b2 h.1 h.2; simp at hb <;> omega))
      have b0_v5 : v5.cell? ⟨w.heap.size + 1, 0, none⟩ = some (.slice ba p cc) := k5.cell b0_v4 (fun h => h.elim (fun h => by have hb := OX.out.b1 h.1 h.2; simp at hb <;> omega) (fun h => by have hb := OX.out.b2 h.1 h.2; simp at hb <;> omega))
      have b1_v5 : v5.cell? ⟨w.heap.size + 1, 1, none⟩ = some (.slice bb q cd) := k5.cell b1_v4 (fun h => h.elim (fun h => by have hb := OX.out.b1 h.1 h.2; simp at hb <;> omega) (fun h => by have hb := OX.out.b2 h.1 h.2; simp at hb <;> omega))
      have x0_v5 : v5.cell? ⟨u2.heap.size, 0, none⟩ = some (.slice xa n xc) := k5.cell x0_v4 (fun h => h.elim (fun h => by have hb := OX.out.b1 h.1 h.2; simp at hb <;> omega) (fun h => by have hb := OX.out.b2 h.1 h.2; simp at hb <;> omega))
      have x1_v5 : v5.cell? ⟨u2.heap.size, 1, none⟩ = some (.slice xb m xd) := k5.cell x1_v4 (fun h => h.elim (fun h => by have hb := OX.out.b1 h.1 h.2; simp at hb <;> omega) (fun h => by have hb := OX.out.b2 h.1 h.2; simp at hb <;> omega))
      have y0_v5 : v5.cell? ⟨u3.heap.size, 0, none⟩ = some (.slice ya p yc) := k5.cell y0_v4 (fun h => h.elim (fun h => by have hb := OX.out.b1 h.1 h.2; simp at hb <;> omega) (fun h => by have hb := OX.out.b2 h.1 h.2; simp at hb <;> omega))
      have y1_v5 : v5.cell? ⟨u3.heap.size, 1, none⟩ = some (.slice yb q yd) := k5.cell y1_v4 (fun h => h.elim (fun h => by have hb := OX.out.b1 h.1 h.2; simp at hb <;> omega) (fun h => by have hb := OX.out.b2 h.1 h.2; simp at hb <;> omega))
      have K5 := Lib.hid k5; clear k5 ox5 a0_v4 a1_v4 b0_v4 b1_v4 x0_v4 x1_v4 y0_v4 y1_v4
      have z5 := K5.out.size
      have OY5 := Lib.hid ((OY4.out.new V4.out).chg K5.out (fun b h1 h2 h => h.elim (fun h => by have hb := OX.out.b1 h.1 h.2; omega) (fun h => by have hb := OX.out.b2 h.1 h.2; omega)))
      have OG5 := Lib.hid ((OG.out.new V4.out).chg K5.out (fun b h1 h2 h => h.elim (fun h => by have hb := OX.out.b1 h.1 h.2; omega) (fun h => by have hb := OX.out.b2 h.1 h.2; omega)))
      have OP5 := Lib.hid ((OP4.out.new V4.out).chg K5.out (fun b h1 h2 h => h.elim (fun h => by have hb := OX.out.b1 h.1 h.2; omega) (fun h => by have hb := OX.out.b2 h.1 h.2; omega)))
      have U5 := Lib.hid (Chg.new (U4.out.trans V4.out) K5.out (fun i hi => hi.elim (fun h => by have hb := OX.out.b1 h.1 h.2; omega) (fun h => by have hb := OX.out.b2 h.1 h.2; omega)))
      go_wp2_with fail
      refine (markVessels_fine _ wb.heap.size u3.heap.size _ _ _ _ _ _ T K _ OY5.out (by omega) (by omega)).mono ?_
      rintro e v6 ⟨rfl, oy6, k6⟩
      have a0_v6 : v6.cell? ⟨w.heap.size, 0, none⟩ = some (.slice aa n ca) := k6.cell a0_v5 (fun h => h.elim (fun h => by have hb := OY.out.b1 h.1 h.2; simp at hb <;> omega) (fun h => by have hb := OY.out.b2 h.1 h.2; simp at hb <;> omega))
      have a1_v6 : v6.cell? ⟨w.heap.size, 1, none⟩ = some (.slice ab m cb) := k6.cell a1_v5 (fun h => h.elim (fun h => by have hb := OY.out.b1 h.1 h.2; simp at hb <;> omega) (fun h => by have hb := OY.out.b2 h.1 h.2; simp at hb <;> omega))
      have b0_v6 : v6.cell? ⟨w.heap.size + 1, 0, none⟩ = some (.slice ba p cc) := k6.cell b0_v5 (fun h => h.elim (fun h => by have hb := OY.out.b1 h.1 h.2; simp at hb <;> omega) (fun h => by have hb := OY.out.b2 h.1 h.2; simp at hb <;> omega))
      have b1_v6 : v6.cell? ⟨w.heap.size + 1, 1, none⟩ = some (.slice bb q cd) := k6.cell b1_v5 (fun h => h.elim (fun h => by have hb := OY.out.b1 h.1 h.2; simp at hb <;> omega) (fun h => by have hb := OY.out.b2 h.1 h.2; simp at hb <;> omega))
      have x0_v6 : v6.cell? ⟨u2.heap.size, 0, none⟩ = some (.slice xa n xc) := k6.cell x0_v5 (fun h => h.elim (fun h => by have hb := OY.out.b1 h.1 h.2; simp at hb <;> omega) (fun h => by have hb := OY.out.b2 h.1 h.2; simp at hb <;> omega))
      have x1_v6 : v6.cell? ⟨u2.heap.size, 1, none⟩ = some (.slice xb m xd) := k6.cell x1_v5 (fun h => h.elim (fun h => by have hb := OY.out.b1 h.1 h.2; simp at hb <;> omega) (fun h => by have hb := OY.out.b2 h.1 h.2; simp at hb <;> omega))
      have y0_v6 : v6.cell? ⟨u3.heap.size, 0, none⟩ = some (.slice ya p yc) := k6.cell y0_v5 (fun h => h.elim (fun h => by have hb := OY.out.b1 h.1 h.2; simp at hb <;> omega) (fun h => by have hb := OY.out.b2 h.1 h.2; simp at hb <;> omega))
      have y1_v6 : v6.cell? ⟨u3.heap.size, 1, none⟩ = some (.slice yb q yd) := k6.cell y1_v5 (fun h => h.elim (fun h => by have hb := OY.out.b1 h.1 h.2; simp at hb <;> omega) (fun h => by have hb := OY.out.b2 h.1 h.2; simp at hb <;> omega))
      have K6 := Lib.hid k6; clear k6 oy6 a0_v5 a1_v5 b0_v5 b1_v5 x0_v5 x1_v5 y0_v5 y1_v5
      have z6 := K6.out.size
      have OG6 := Lib.hid (OG5.out.chg K6.out (fun b h1 h2 h => h.elim (fun h => by have hb := OY.out.b1 h.1 h.2; omega) (fun h => by have hb := OY.out.b2 h.1 h.2; omega)))
      have OP6 := Lib.hid (OP5.out.chg K6.out (fun b h1 h2 h => h.elim (fun h => by have hb := OY.out.b1 h.1 h.2; omega) (fun h => by have hb := OY.out.b2 h.1 h.2; omega)))
      have U6 := Lib.hid (Chg.new U5.out K6.out (fun i hi => hi.elim (fun h => by have hb := OY.out.b1 h.1 h.2; omega) (fun h => by have hb := OY.out.b2 h.1 h.2; omega)))
      have ek : ¬ 1 + (n : Int) + (m : Int) + (p : Int) + (q : Int) < 0 := by omega
      clear x0_v6 x1_v6 y0_v6 y1_v6
      go_wp2_with fail
      refine (eqMoveS_any _ _ _ _ _ _ _ _ _ OG6.out.pairs OP6.out.pairs).mono ?_
      rintro e v7 ⟨rfl, k⟩
      have a0_v7 : v7.cell? ⟨w.heap.size, 0, none⟩ = some (.slice aa n ca) := k.cell a0_v6
      have a1_v7 : v7.cell? ⟨w.heap.size, 1, none⟩ = some (.slice ab m cb) := k.cell a1_v6
      have b0_v7 : v7.cell? ⟨w.heap.size + 1, 0, none⟩ = some (.slice ba p cc) := k.cell b0_v6
      have b1_v7 : v7.cell? ⟨w.heap.size + 1, 1, none⟩ = some (.slice bb q cd) := k.cell b1_v6
      have K7 := Lib.hid k; clear k a0_v6 a1_v6 b0_v6 b1_v6
      have z7 := K7.out.size
      go_wp2_with fail
      refine (markMoveS_any _ wc.heap.size u4.heap.size _ _ _ _ _ (OG6.out.new K7.out) (by omega) (by omega)).mono ?_
      rintro e v8 ⟨rfl, og8, k8⟩
      have a0_v8 : v8.cell? ⟨w.heap.size, 0, none⟩ = some (.slice aa n ca) := k8.cell a0_v7 (fun h => by have hb := OG.out.bounds h.1 h.2; simp at hb <;> omega)
      have a1_v8 : v8.cell? ⟨w.heap.size, 1, none⟩ = some (.slice ab m cb) := k8.cell a1_v7 (fun h => by have hb := OG.out.bounds h.1 h.2; simp at hb <;> omega)
      have b0_v8 : v8.cell? ⟨w.heap.size + 1, 0, none⟩ = some (.slice ba p cc) := k8.cell b0_v7 (fun h => by have hb := OG.out.bounds h.1 h.2; simp at hb <;> omega)
      have b1_v8 : v8.cell? ⟨w.heap.size + 1, 1, none⟩ = some (.slice bb q cd) := k8.cell b1_v7 (fun h => by have hb := OG.out.bounds h.1 h.2; simp at hb <;> omega)
      have K8 := Lib.hid k8; clear k8 a0_v7 a1_v7 b0_v7 b1_v7
      have OG8 := Lib.hid og8; clear og8
      have z8 := K8.out.size
      have OP8 := Lib.hid ((OP6.out.new K7.out).chg K8.out (fun b h1 h2 h => by have hb := OG.out.bounds h.1 h.2; omega))
      have U8 := Lib.hid (Chg.new (U6.out.trans K7.out) K8.out (fun i hi => by have hb := OG.out.bounds hi.1 hi.2; omega))
      go_wp2_with fail
      refine (heldMoveS_any _ _ _ _ _ OG8.out.pairs (by omega) (by omega)).mono ?_
      rintro e v9 ⟨rfl, k⟩
      have a0_v9 : v9.cell? ⟨w.heap.size, 0, none⟩ = some (.slice aa n ca) := k.cell a0_v8
      have a1_v9 : v9.cell? ⟨w.heap.size, 1, none⟩ = some (.slice ab m cb) := k.cell a1_v8
      have b0_v9 : v9.cell? ⟨w.heap.size + 1, 0, none⟩ = some (.slice ba p cc) := k.cell b0_v8
      have b1_v9 : v9.cell? ⟨w.heap.size + 1, 1, none⟩ = some (.slice bb q cd) := k.cell b1_v8
      have K9 := Lib.hid k; clear k a0_v8 a1_v8 b0_v8 b1_v8
      have U9 := Lib.hid (U8.out.trans K9.out)
      have eg : ¬ 1 + 2 * (gn : Int) < 0 := by omega
      have eg2 : (1 + 2 * (gn : Int) != 1 + 2 * (gn : Int)) = false := by simp
      go_wp2_with fail
      go_region_held3 (fun w' => w'.cell? ⟨w.heap.size, 0, none⟩ = some (.slice aa n ca) ∧ w'.cell? ⟨w.heap.size, 1, none⟩ = some (.slice ab m cb) ∧ w'.cell? ⟨w.heap.size + 1, 0, none⟩ = some (.slice ba p cc) ∧ w'.cell? ⟨w.heap.size + 1, 1, none⟩ = some (.slice bb q cd))
        (first | exact ⟨a0_v9, a1_v9, b0_v9, b1_v9⟩ | exact ⟨n_t1.cell (a0_v9), n_t1.cell (a1_v9), n_t1.cell (b0_v9), n_t1.cell (b1_v9)⟩ | exact ⟨n_t2.cell (n_t1.cell (a0_v9)), n_t2.cell (n_t1.cell (a1_v9)), n_t2.cell (n_t1.cell (b0_v9)), n_t2.cell (n_t1.cell (b1_v9))⟩ | exact ⟨n_t3.cell (n_t2.cell (n_t1.cell (a0_v9))), n_t3.cell (n_t2.cell (n_t1.cell (a1_v9))), n_t3.cell (n_t2.cell (n_t1.cell (b0_v9))), n_t3.cell (n_t2.cell (n_t1.cell (b1_v9)))⟩ | fail)
        (first
          | (go_at_call_of 12 (Value.agg #[Value.slice aa n ca, Value.slice ab m cb]); refine (toVessels_any _ _ _ _ _ _ _ S H ?_ ?_ hn hm).mono ?_; exact HA.out.new U9.out.drew; exact HB.out.new U9.out.drew; rintro e t1 ⟨fa, fc, fb, fd, rfl, f3, n_t1⟩)
          | (go_at_call_of 12 (Value.agg #[Value.slice ba p cc, Value.slice bb q cd]); refine (toVessels_any _ _ _ _ _ _ _ T K ?_ ?_ hp hq).mono ?_; exact HC.out.new (U9.out.drew.trans n_t1); exact HD.out.new (U9.out.drew.trans n_t1); rintro e t2 ⟨ha, hc, hb, hd, rfl, f4, n_t2⟩)
          | (go_at_call 18; refine (iPlanTo_any _ _ _ _ _ _ _ _ _ _ _ _ _ S H T K x0 ?_ ?_ ?_ ?_).mono ?_; exact f3.1.ints.new n_t2; exact f3.2.1.ints.new n_t2; exact f4.1.ints; exact f4.2.1.ints; rintro e t3 ⟨ia, jn, ic, rfl, oh, n_t3⟩))
      have T3 := Lib.hid (show New v9 t3 from (((New.refl _).drew.trans n_t1).trans n_t2).trans n_t3)
      have OH := Lib.hid oh
      clear f3 f4 n_t1 n_t2 n_t3 oh a0_v9 a1_v9 b0_v9 b1_v9
      go_wp2_with fail
      refine (eqMoveS_any _ _ _ _ _ _ _ _ _ OH.out.pairs (((OP8.out.new K9.out).new T3.out).pairs)).mono ?_
      rintro e t4 ⟨rfl, k⟩
      have T4 := Lib.hid k; clear k
      go_wp2_with fail
      refine (heldMoveS_any _ _ _ _ _ ((((OG8.out.new K9.out).new T3.out).new T4.out).pairs) (by omega) (by omega)).mono ?_
      rintro e t5 ⟨rfl, k⟩
      have T5 := Lib.hid k; clear k
      go_wp2
      go_ret
      exact ⟨rfl, ((U9.out.trans T3.out).trans T4.out).trans T5.out⟩
end Go.Proofs.Ytjailklnagfglaa
