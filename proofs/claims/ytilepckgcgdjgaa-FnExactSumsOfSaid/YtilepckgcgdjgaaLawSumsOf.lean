/- The law of SumsOf: its walk. -/
import Derived.Test.YtilepckgcgdjgaaAmoS
import Derived.Test.YtilepckgcgdjgaaTotI
import Derived.Test.YtilepckgcgdjgaaMarkV
import Derived.Deep.RegionHeld3
namespace Go.Proofs.Ytilepckgcgdjgaa
open Go.RowKit

theorem new_of_drewN {w w' : World} {n : Nat} (h : w' = w.drewN n) : New w w' := by rw [h]; exact (New.refl w).drewN n
set_option maxRecDepth 100000 in
set_option maxHeartbeats 20000000 in
theorem law_SumsOf (w : World) (aa ab : Option Addr) (n m ca cb : Nat) (S H : List Int) (h1 : Ints w aa n ca S) (h2 : Ints w ab m cb H) (hR : ((totM S H).1).length ≤ 1048576) :
    Calls Try.prog 4 #[.agg #[.slice aa n ca, .slice ab m cb]] w fun e w' => e = .returned (.bool true) ∧ New w w' := by
  have HA := Lib.hid h1; clear h1
  have HB := Lib.hid h2; clear h2
  have LR := Lib.hid hR; clear hR
  go_enter Try.func4, Try.ntmps4
  go_wp2_with fail
  refine (szVessels_any _ _ _ n m _ _ _ HA.out.2.2.1 HB.out.2.2.1 (by omega) (by omega)).mono ?_
  rintro e w1 ⟨r, rfl, g1, g2, g3, n1⟩
  have G3 := Lib.hid g3; clear g3
  have a0_1 : w1.cell? ⟨w.heap.size, 0, none⟩ = some (.slice aa n ca) := n1.cell (by simp [go_sem])
  have a1_1 : w1.cell? ⟨w.heap.size, 1, none⟩ = some (.slice ab m cb) := n1.cell (by simp [go_sem])
  have N1 := Lib.hid (show New w w1 from New.trans (by repeat (first | with_reducible exact New.refl _ | with_reducible assumption | refine New.drewN ?_ _ | refine New.drew ?_ | refine New.alloc ?_ _ | refine New.setCell ?_ (by first | omega | (simp; omega) | (simp; done)) _ | (refine New.trans ?_ (by assumption)))) n1); clear n1
  by_cases hr : r < 0
  · go_wp2
    go_ret
    exact ⟨rfl, N1.out⟩
  · have hs := (G3.out (by omega)).1
    have hn : n ≤ 1048576 := by omega
    have hm : m ≤ 1048576 := by omega
    clear hs G3
    have z1 : w.heap.size < w1.heap.size := World.block_lt_of_cell? _ _ a1_1
    go_wp2_with fail
    refine (toVessels_any _ _ _ _ _ _ _ S H (HA.out.new N1.out) (HB.out.new N1.out) hn hm).mono ?_
    rintro e wa ⟨sa, sc, sb, sd, rfl, oa, na⟩
    have a0_a : wa.cell? ⟨w.heap.size, 0, none⟩ = some (.slice aa n ca) := na.cell a0_1
    have a1_a : wa.cell? ⟨w.heap.size, 1, none⟩ = some (.slice ab m cb) := na.cell a1_1
    have OA := Lib.hid oa
    have NA := Lib.hid na; clear oa na a0_1 a1_1
    go_wp2_with fail
    refine (sSumsOf_any _ _ _ _ _ _ _ S H OA.out.1.ints OA.out.2.1.ints).mono ?_
    rintro e u1 ⟨pa, pn, pc, rfl, op, nb⟩
    have a0_u1 : u1.cell? ⟨w.heap.size, 0, none⟩ = some (.slice aa n ca) := nb.cell a0_a
    have a1_u1 : u1.cell? ⟨w.heap.size, 1, none⟩ = some (.slice ab m cb) := nb.cell a1_a
    have OP := Lib.hid op
    have Z1 := Lib.hid (And.intro NA.out.size nb.size)
    have U1 := Lib.hid ((N1.out.trans NA.out).trans nb); clear op nb OA a0_a a1_a
    go_wp2_with fail
    refine (toVessels_any _ _ _ _ _ _ _ S H (HA.out.new U1.out) (HB.out.new U1.out) hn hm).mono ?_
    rintro e u2 ⟨xa, xc, xb, xd, rfl, ox, n2⟩
    have a0_u2 : u2.cell? ⟨w.heap.size, 0, none⟩ = some (.slice aa n ca) := n2.cell a0_u1
    have a1_u2 : u2.cell? ⟨w.heap.size, 1, none⟩ = some (.slice ab m cb) := n2.cell a1_u1
    have OX := Lib.hid ox
    have K2 := Lib.hid n2; clear ox n2 a0_u1 a1_u1
    go_upto_region 7 with fail
    obtain ⟨wb, hwb⟩ : ∃ wb, wb = u2.alloc (.cells #[.slice xa n xc, .slice xb m xd] 28) := ⟨_, rfl⟩
    rw [← hwb]
    have x0_b : wb.cell? ⟨u2.heap.size, 0, none⟩ = some (.slice xa n xc) := by rw [hwb]; simp
    have x1_b : wb.cell? ⟨u2.heap.size, 1, none⟩ = some (.slice xb m xd) := by rw [hwb]; simp
    have a0_b : wb.cell? ⟨w.heap.size, 0, none⟩ = some (.slice aa n ca) := by rw [hwb]; exact World.cell_kept a0_u2
    have a1_b : wb.cell? ⟨w.heap.size, 1, none⟩ = some (.slice ab m cb) := by rw [hwb]; exact World.cell_kept a1_u2
    have z3 : u2.heap.size < wb.heap.size := by rw [hwb]; simp
    have NB := Lib.hid (show New u2 wb by rw [hwb]; exact (by repeat (first | with_reducible exact New.refl _ | with_reducible assumption | refine New.drewN ?_ _ | refine New.drew ?_ | refine New.alloc ?_ _ | refine New.setCell ?_ (by first | omega | (simp; omega) | (simp; done)) _ | (refine New.trans ?_ (by assumption)))))
    clear hwb a0_u2 a1_u2
    go_wp2_with fail
    refine (iSumsOf_any _ _ _ _ _ _ _ S H (OX.out.1.ints.new (NB.out.trans (by repeat (first | with_reducible exact New.refl _ | with_reducible assumption | refine New.drewN ?_ _ | refine New.drew ?_ | refine New.alloc ?_ _ | refine New.setCell ?_ (by first | omega | (simp; omega) | (simp; done)) _ | (refine New.trans ?_ (by assumption)))))) (OX.out.2.1.ints.new (NB.out.trans (by repeat (first | with_reducible exact New.refl _ | with_reducible assumption | refine New.drewN ?_ _ | refine New.drew ?_ | refine New.alloc ?_ _ | refine New.setCell ?_ (by first | omega | (simp; omega) | (simp; done)) _ | (refine New.trans ?_ (by assumption))))))).mono ?_
    rintro e u3 ⟨ga, gn, gc, rfl, og, n3⟩
    have a0_u3 : u3.cell? ⟨w.heap.size, 0, none⟩ = some (.slice aa n ca) := n3.cell (by first | exact a0_b | exact World.cell_kept a0_b)
    have a1_u3 : u3.cell? ⟨w.heap.size, 1, none⟩ = some (.slice ab m cb) := n3.cell (by first | exact a1_b | exact World.cell_kept a1_b)
    have x0_u3 : u3.cell? ⟨u2.heap.size, 0, none⟩ = some (.slice xa n xc) := n3.cell (by first | exact x0_b | exact World.cell_kept x0_b)
    have x1_u3 : u3.cell? ⟨u2.heap.size, 1, none⟩ = some (.slice xb m xd) := n3.cell (by first | exact x1_b | exact World.cell_kept x1_b)
    have OG := Lib.hid og
    have K3 := Lib.hid (show New wb u3 from New.trans (by repeat (first | with_reducible exact New.refl _ | with_reducible assumption | refine New.drewN ?_ _ | refine New.drew ?_ | refine New.alloc ?_ _ | refine New.setCell ?_ (by first | omega | (simp; omega) | (simp; done)) _ | (refine New.trans ?_ (by assumption)))) n3); clear og n3 a0_b a1_b x0_b x1_b
    have U3 := Lib.hid (((U1.out.trans K2.out).trans NB.out).trans K3.out)
    have OP3 := Lib.hid (((OP.out.new K2.out).new NB.out).new K3.out)
    have OX3 := Lib.hid ((OX.out.new NB.out).new K3.out)
    have gl : gn ≤ 1048576 := by have := OG.out.1; have := LR.out; omega
    have zz := Lib.hid (And.intro (And.intro U1.out.size K2.out.size) (And.intro NB.out.size K3.out.size))
    go_wp2_with fail
    refine (eqIntS_any _ _ _ _ _ _ _ _ _ OG.out.ints OP3.out.ints).mono ?_
    rintro e u4 ⟨rfl, qk, hqk⟩
    have k := new_of_drewN hqk
    clear hqk
    have a0_u4 : u4.cell? ⟨w.heap.size, 0, none⟩ = some (.slice aa n ca) := k.cell a0_u3
    have a1_u4 : u4.cell? ⟨w.heap.size, 1, none⟩ = some (.slice ab m cb) := k.cell a1_u3
    have x0_u4 : u4.cell? ⟨u2.heap.size, 0, none⟩ = some (.slice xa n xc) := k.cell x0_u3
    have x1_u4 : u4.cell? ⟨u2.heap.size, 1, none⟩ = some (.slice xb m xd) := k.cell x1_u3
    have Ku4 := Lib.hid k; clear k a0_u3 a1_u3 x0_u3 x1_u3
    go_wp2_with fail
    go_region_held3 (fun w' => w'.cell? ⟨w.heap.size, 0, none⟩ = some (.slice aa n ca) ∧ w'.cell? ⟨w.heap.size, 1, none⟩ = some (.slice ab m cb) ∧ w'.cell? ⟨u2.heap.size, 0, none⟩ = some (.slice xa n xc) ∧ w'.cell? ⟨u2.heap.size, 1, none⟩ = some (.slice xb m xd))
      (first | exact ⟨a0_u4, a1_u4, x0_u4, x1_u4⟩ | exact ⟨n5.cell (a0_u4), n5.cell (a1_u4), n5.cell (x0_u4), n5.cell (x1_u4)⟩ | exact ⟨n6.cell (n5.cell (a0_u4)), n6.cell (n5.cell (a1_u4)), n6.cell (n5.cell (x0_u4)), n6.cell (n5.cell (x1_u4))⟩ | fail)
      (first
        | (go_at_call 11; refine (toVessels_any _ _ _ _ _ _ _ S H ?_ ?_ hn hm).mono ?_; exact HA.out.new (U3.out.trans Ku4.out).drew; exact HB.out.new (U3.out.trans Ku4.out).drew; rintro e u5 ⟨ya, yc, yb, yd, rfl, oy, n5⟩)
        | (go_at_call 14; refine (eqVessels_any _ _ _ _ _ _ _ _ _ _ _ _ _ S H S H ?_ ?_ oy.1.ints oy.2.1.ints).mono ?_; exact (OX3.out.1.ints.new Ku4.out).new ((New.refl _).drew.trans n5); exact (OX3.out.2.1.ints.new Ku4.out).new ((New.refl _).drew.trans n5); rintro e u6 ⟨rfl, n6⟩))
    have a0_u6 : u6.cell? ⟨w.heap.size, 0, none⟩ = some (.slice aa n ca) := n6.cell (n5.cell (a0_u4))
    have a1_u6 : u6.cell? ⟨w.heap.size, 1, none⟩ = some (.slice ab m cb) := n6.cell (n5.cell (a1_u4))
    have x0_u6 : u6.cell? ⟨u2.heap.size, 0, none⟩ = some (.slice xa n xc) := n6.cell (n5.cell (x0_u4))
    have x1_u6 : u6.cell? ⟨u2.heap.size, 1, none⟩ = some (.slice xb m xd) := n6.cell (n5.cell (x1_u4))
    have V6 := Lib.hid (show New u3 u6 from (Ku4.out.drew.trans n5).trans n6)
    clear n5 n6 oy Ku4 a0_u4 a1_u4 x0_u4 x1_u4
    go_wp2_with fail
    refine (markVessels_any _ u1.heap.size u2.heap.size _ _ _ _ _ _ S H _ (OX3.out.new V6.out) (by omega) (by omega)).mono ?_
    rintro e u7 ⟨rfl, ox7, k7⟩
    obtain ⟨⟨zA, zB⟩, zC, zD⟩ := zz.out
    have z6 := V6.out.size
    have zE := N1.out.size
    have zF := Z1.out.1
    have zG := Z1.out.2
    have a0_u7 : u7.cell? ⟨w.heap.size, 0, none⟩ = some (.slice aa n ca) := k7.cell a0_u6 (fun h => by simp at h <;> omega)
    have a1_u7 : u7.cell? ⟨w.heap.size, 1, none⟩ = some (.slice ab m cb) := k7.cell a1_u6 (fun h => by simp at h <;> omega)
    have x0_u7 : u7.cell? ⟨u2.heap.size, 0, none⟩ = some (.slice xa n xc) := k7.cell x0_u6 (fun h => by simp at h <;> omega)
    have x1_u7 : u7.cell? ⟨u2.heap.size, 1, none⟩ = some (.slice xb m xd) := k7.cell x1_u6 (fun h => by simp at h <;> omega)
    have K7 := Lib.hid k7; clear k7 ox7 a0_u6 a1_u6 x0_u6 x1_u6
    have OG7 := Lib.hid ((OG.out.new V6.out).chg K7.out (fun b h1 h2 h => by omega))
    have OP7 := Lib.hid ((OP3.out.new V6.out).chg K7.out (fun b h1 h2 h => by omega))
    have z7 := K7.out.size
    have ek : ¬ 1 + (n : Int) + (m : Int) < 0 := by omega
    go_wp2_with fail
    refine (eqIntS_any _ _ _ _ _ _ _ _ _ OG7.out.ints OP7.out.ints).mono ?_
    rintro e u8 ⟨rfl, qk, hqk⟩
    have k := new_of_drewN hqk
    clear hqk
    have a0_u8 : u8.cell? ⟨w.heap.size, 0, none⟩ = some (.slice aa n ca) := k.cell a0_u7
    have a1_u8 : u8.cell? ⟨w.heap.size, 1, none⟩ = some (.slice ab m cb) := k.cell a1_u7
    have x0_u8 : u8.cell? ⟨u2.heap.size, 0, none⟩ = some (.slice xa n xc) := k.cell x0_u7
    have x1_u8 : u8.cell? ⟨u2.heap.size, 1, none⟩ = some (.slice xb m xd) := k.cell x1_u7
    have Ku8 := Lib.hid k; clear k a0_u7 a1_u7 x0_u7 x1_u7
    go_wp2_with fail
    refine (markIntS_any _ wb.heap.size u3.heap.size _ _ _ _ _ (OG7.out.new Ku8.out) (by omega) (by omega)).mono ?_
    rintro e u9 ⟨rfl, og9, k9⟩
    have z8 := Ku8.out.size
    have a0_u9 : u9.cell? ⟨w.heap.size, 0, none⟩ = some (.slice aa n ca) := k9.cell a0_u8 (fun h => by have := OG.out.bounds h.1 h.2; simp at this; omega)
    have a1_u9 : u9.cell? ⟨w.heap.size, 1, none⟩ = some (.slice ab m cb) := k9.cell a1_u8 (fun h => by have := OG.out.bounds h.1 h.2; simp at this; omega)
    have x0_u9 : u9.cell? ⟨u2.heap.size, 0, none⟩ = some (.slice xa n xc) := k9.cell x0_u8 (fun h => by have := OG.out.bounds h.1 h.2; simp at this; omega)
    have x1_u9 : u9.cell? ⟨u2.heap.size, 1, none⟩ = some (.slice xb m xd) := k9.cell x1_u8 (fun h => by have := OG.out.bounds h.1 h.2; simp at this; omega)
    have K9 := Lib.hid k9; clear k9 a0_u8 a1_u8 x0_u8 x1_u8
    have OG9 := Lib.hid og9; clear og9
    have OP9 := Lib.hid ((OP7.out.new Ku8.out).chg K9.out (fun b h1 h2 h => by have := OG.out.bounds h.1 h.2; omega))
    have z9 := K9.out.size
    go_wp2_with fail
    refine (heldIntS_any _ _ _ _ _ OG9.out.ints (by omega) (by omega)).mono ?_
    rintro e u10 ⟨rfl, qk, hqk⟩
    have k := new_of_drewN hqk
    clear hqk
    have a0_u10 : u10.cell? ⟨w.heap.size, 0, none⟩ = some (.slice aa n ca) := k.cell a0_u9
    have a1_u10 : u10.cell? ⟨w.heap.size, 1, none⟩ = some (.slice ab m cb) := k.cell a1_u9
    have x0_u10 : u10.cell? ⟨u2.heap.size, 0, none⟩ = some (.slice xa n xc) := k.cell x0_u9
    have x1_u10 : u10.cell? ⟨u2.heap.size, 1, none⟩ = some (.slice xb m xd) := k.cell x1_u9
    have Ku10 := Lib.hid k; clear k a0_u9 a1_u9 x0_u9 x1_u9
    have eg : ¬ 1 + (gn : Int) < 0 := by omega
    have U10 := Lib.hid (show New w u10 from by
      have q6 := U3.out.trans V6.out
      have q7 := Chg.new q6 K7.out (fun i hi => by omega)
      have q8 := q7.trans Ku8.out
      have q9 := Chg.new q8 K9.out (fun i hi => by have := OG.out.bounds hi.1 hi.2; omega)
      exact q9.trans Ku10.out)
    have OG10 := Lib.hid (OG9.out.new Ku10.out)
    have OP10 := Lib.hid (OP9.out.new Ku10.out)
    go_wp2_with fail
    refine (toVessels_any _ _ _ _ _ _ _ S H (HA.out.new U10.out) (HB.out.new U10.out) hn hm).mono ?_
    rintro e w2 ⟨ha, hc, hb, hd, rfl, oh, n11⟩
    have a0_w2 : w2.cell? ⟨w.heap.size, 0, none⟩ = some (.slice aa n ca) := n11.cell a0_u10
    have a1_w2 : w2.cell? ⟨w.heap.size, 1, none⟩ = some (.slice ab m cb) := n11.cell a1_u10
    have x0_w2 : w2.cell? ⟨u2.heap.size, 0, none⟩ = some (.slice xa n xc) := n11.cell x0_u10
    have x1_w2 : w2.cell? ⟨u2.heap.size, 1, none⟩ = some (.slice xb m xd) := n11.cell x1_u10
    have OH := Lib.hid oh
    have K11 := Lib.hid n11; clear oh n11 a0_u10 a1_u10 x0_u10 x1_u10
    go_wp2_with fail
    refine (iSumsOf_any _ _ _ _ _ _ _ S H OH.out.1.ints OH.out.2.1.ints).mono ?_
    rintro e u11 ⟨fa, fn, fc, rfl, of, n12⟩
    have a0_u11 : u11.cell? ⟨w.heap.size, 0, none⟩ = some (.slice aa n ca) := n12.cell a0_w2
    have a1_u11 : u11.cell? ⟨w.heap.size, 1, none⟩ = some (.slice ab m cb) := n12.cell a1_w2
    have x0_u11 : u11.cell? ⟨u2.heap.size, 0, none⟩ = some (.slice xa n xc) := n12.cell x0_w2
    have x1_u11 : u11.cell? ⟨u2.heap.size, 1, none⟩ = some (.slice xb m xd) := n12.cell x1_w2
    have OF := Lib.hid of
    have K12 := Lib.hid (K11.out.trans n12); clear of n12 a0_w2 a1_w2 x0_w2 x1_w2
    have OP11 := Lib.hid (OP10.out.new K12.out)
    have OG11 := Lib.hid (OG10.out.new K12.out)
    go_wp2_with fail
    refine (eqIntS_any _ _ _ _ _ _ _ _ _ OF.out.ints OP11.out.ints).mono ?_
    rintro e u12 ⟨rfl, qk, hqk⟩
    have k := new_of_drewN hqk
    clear hqk
    have a0_u12 : u12.cell? ⟨w.heap.size, 0, none⟩ = some (.slice aa n ca) := k.cell a0_u11
    have a1_u12 : u12.cell? ⟨w.heap.size, 1, none⟩ = some (.slice ab m cb) := k.cell a1_u11
    have x0_u12 : u12.cell? ⟨u2.heap.size, 0, none⟩ = some (.slice xa n xc) := k.cell x0_u11
    have x1_u12 : u12.cell? ⟨u2.heap.size, 1, none⟩ = some (.slice xb m xd) := k.cell x1_u11
    have Ku12 := Lib.hid k; clear k a0_u11 a1_u11 x0_u11 x1_u11
    have OG12 := Lib.hid (OG11.out.new Ku12.out)
    go_wp2_with fail
    refine (heldIntS_any _ _ _ _ _ OG12.out.ints (by omega) (by omega)).mono ?_
    rintro e u13 ⟨rfl, qk, hqk⟩
    have k := new_of_drewN hqk
    clear hqk
    have a0_u13 : u13.cell? ⟨w.heap.size, 0, none⟩ = some (.slice aa n ca) := k.cell a0_u12
    have a1_u13 : u13.cell? ⟨w.heap.size, 1, none⟩ = some (.slice ab m cb) := k.cell a1_u12
    have x0_u13 : u13.cell? ⟨u2.heap.size, 0, none⟩ = some (.slice xa n xc) := k.cell x0_u12
    have x1_u13 : u13.cell? ⟨u2.heap.size, 1, none⟩ = some (.slice xb m xd) := k.cell x1_u12
    have Ku13 := Lib.hid k; clear k a0_u12 a1_u12 x0_u12 x1_u12
    go_wp2
    go_ret
    exact ⟨rfl, ((U10.out.trans K12.out).trans Ku12.out).trans Ku13.out⟩
end Go.Proofs.Ytilepckgcgdjgaa
