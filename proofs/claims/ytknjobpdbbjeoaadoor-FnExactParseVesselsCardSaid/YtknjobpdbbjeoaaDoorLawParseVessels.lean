/- The law of ParseVessels: its walk. -/
import Derived.Test.YtknjobpdbbjeoaaDoorPvI
import Derived.Test.YtknjobpdbbjeoaaDoorMarkV
import Derived.Deep.RegionHeld3
import Derived.Deep.DeepCutAuto
namespace Go.Proofs.YtknjobpdbbjeoaaDoor
open Go.RowKit

theorem cell_new {w w' : World} (h : ∃ m, w.cell? ⟨0, 0, none⟩ = some (.int .i64 m)) (k : New w w') : ∃ m, w'.cell? ⟨0, 0, none⟩ = some (.int .i64 m) := by
  obtain ⟨m, hm⟩ := h
  exact ⟨m, k.cell hm⟩

set_option maxRecDepth 100000 in
set_option maxHeartbeats 20000000 in
theorem law_ParseVessels (w : World) (s : ByteArray) (hz : s.size ≤ maxLen) (he : PmEnv w) (hx : ∃ m, w.cell? ⟨0, 0, none⟩ = some (.int .i64 m)) :
    Calls Tryd.prog 3 #[.string s] w fun e w' => e = .returned (.bool true) ∧ New w w' := by
  have HE := Lib.hid he; clear he
  have HX := Lib.hid hx; clear hx
  unfold maxLen at hz
  have LL := Lib.hid (pvM_small s)
  go_enter Tryd.func3, Tryd.ntmps3
  by_cases hn : 1048576 < (s.size : Int)
  · go_wp2
    go_ret
    exact ⟨rfl, (by repeat (first | with_reducible exact New.refl _ | with_reducible assumption | refine New.drewN ?_ _ | refine New.drew ?_ | refine New.alloc ?_ _ | refine New.setCell ?_ (by first | omega | (simp; omega) | (simp; done)) _ | (refine New.trans ?_ (by assumption))))⟩
  · replace hn : s.size ≤ 1048576 := by omega
    go_upto_region 3 with fail
    go_cut [3, 4] (fun p q0 W => CutV w (pvMS s) (pvMH s) p W ∧ q0 = .bool (pvB s))
    case first =>
      go_wp2_with fail
      refine (sParseVessels_any _ s hn).mono ?_
      rintro e w4 ⟨ra, rn, rc, rb, rm, rd, rfl, o4, n4⟩
      go_wp2_with fail
      go_meet
      have ov : OwnV w4 w.heap.size w4.heap.size _ _ _ _ _ _ _ _ := OwnV.mono o4 (by omega) (Nat.le_refl _)
      exact ⟨CutV.mk (BoxV.behind n4 ov), rfl⟩
    case rest =>
      obtain ⟨⟨B, pa, pn, pc, pb, pm, pd, rfl, hbx⟩, rfl⟩ := hcut
      obtain ⟨u1, rfl⟩ : ∃ u : World, u = wc := ⟨_, rfl⟩
      have BX := Lib.hid hbx; clear hbx
      have p0_u1 := BX.out.c0
      have p1_u1 := BX.out.c1
      have zB0 := BX.out.lo
      have zB1 := BX.out.hi
      have U1 := Lib.hid (show New w u1 from BX.out.new)
      go_upto_region 4 with fail
      go_cut [5, 6] (fun p q0 W => CutV u1 (pvMS s) (pvMH s) p W ∧ q0 = .bool (pvB s))
      case first =>
        go_wp2_with fail
        refine (iParseVessels_any _ s hn (HE.out.new U1.out) (cell_new HX.out U1.out)).mono ?_
        rintro e w4 ⟨ra, rn, rc, rb, rm, rd, rfl, o4, n4⟩
        go_wp2_with fail
        go_meet
        have ov : OwnV w4 u1.heap.size w4.heap.size _ _ _ _ _ _ _ _ := OwnV.mono o4 (by omega) (Nat.le_refl _)
        exact ⟨CutV.mk (BoxV.behind n4 ov), rfl⟩
      case rest =>
        obtain ⟨⟨C, ga, gn, gc, gb, gm, gd, rfl, hbg⟩, rfl⟩ := hcut
        obtain ⟨u3, rfl⟩ : ∃ u : World, u = wc := ⟨_, rfl⟩
        have BG := Lib.hid hbg; clear hbg
        have p0_u3 : u3.cell? ⟨B, 0, none⟩ = some (.slice pa pn pc) := BG.out.new.cell p0_u1
        have p1_u3 : u3.cell? ⟨B, 1, none⟩ = some (.slice pb pm pd) := BG.out.new.cell p1_u1
        have g0_u3 := BG.out.c0
        have g1_u3 := BG.out.c1
        have zC0 := BG.out.lo
        have zC1 := BG.out.hi
        clear p0_u1 p1_u1
        have U3 := Lib.hid (U1.out.trans BG.out.new)
        have OP := Lib.hid (BX.out.own.new BG.out.new)
        have OG := Lib.hid BG.out.own
        have lg := OG.out.len
        have gl1 : gn ≤ 1048576 := by have := LL.out; omega
        have gl2 : gm ≤ 1048576 := by have := LL.out; omega
        clear lg
        go_wp2_with fail
        refine (eqVessels_any _ _ _ _ _ _ _ _ _ _ _ _ _ _ _ _ _ OG.out.1.ints OG.out.2.1.ints OP.out.1.ints OP.out.2.1.ints).mono ?_
        rintro e u4 ⟨rfl, k⟩
        have p0_u4 := k.cell p0_u3
        have p1_u4 := k.cell p1_u3
        have g0_u4 := k.cell g0_u3
        have g1_u4 := k.cell g1_u3
        have K4 := Lib.hid k; clear k p0_u3 p1_u3 g0_u3 g1_u3
        have zs := K4.out.size
        go_wp2_with fail
        refine (markVessels_fine _ u1.heap.size u3.heap.size _ _ _ _ _ _ _ _ _ (OG.out.new K4.out) (by omega) (by omega)).mono ?_
        rintro e u9 ⟨rfl, og9, k9⟩
        have p0_u9 : u9.cell? ⟨B, 0, none⟩ = some (.slice pa pn pc) := k9.cell p0_u4 (fun h => by rcases h with h | h; have := OG.out.1.bounds h.1 h.2; simp at this; omega; have := OG.out.2.1.bounds h.1 h.2; simp at this; omega)
        have p1_u9 : u9.cell? ⟨B, 1, none⟩ = some (.slice pb pm pd) := k9.cell p1_u4 (fun h => by rcases h with h | h; have := OG.out.1.bounds h.1 h.2; simp at this; omega; have := OG.out.2.1.bounds h.1 h.2; simp at this; omega)
        have g0_u9 : u9.cell? ⟨C, 0, none⟩ = some (.slice ga gn gc) := k9.cell g0_u4 (fun h => by rcases h with h | h; exact BG.out.apa h.1 h.2; exact BG.out.apb h.1 h.2)
        have g1_u9 : u9.cell? ⟨C, 1, none⟩ = some (.slice gb gm gd) := k9.cell g1_u4 (fun h => by rcases h with h | h; exact BG.out.apa h.1 h.2; exact BG.out.apb h.1 h.2)
        have K9 := Lib.hid k9; clear k9 p0_u4 p1_u4 g0_u4 g1_u4
        have OG9 := Lib.hid og9; clear og9
        have OP9 := Lib.hid ((OP.out.new K4.out).chg K9.out (fun b h1 h2 h => by rcases h with h | h; have := OG.out.1.bounds h.1 h.2; omega; have := OG.out.2.1.bounds h.1 h.2; omega))
        go_wp2_with fail
        refine (heldVessels_any _ _ _ _ _ _ _ _ OG9.out.1.ints OG9.out.2.1.ints (by omega) (by omega)).mono ?_
        rintro e u10 ⟨rfl, k10⟩
        have p0_u10 := k10.cell p0_u9
        have p1_u10 := k10.cell p1_u9
        have g0_u10 := k10.cell g0_u9
        have g1_u10 := k10.cell g1_u9
        have K10 := Lib.hid k10; clear k10 p0_u9 p1_u9 g0_u9 g1_u9
        have eg : ¬ 1 + (gn : Int) + (gm : Int) < 0 := by omega
        have U10 := Lib.hid (show New w u10 from by
          have q8 := U3.out.trans K4.out
          have zz := U1.out.size
          have q9 := Chg.new q8 K9.out (fun i hi => by rcases hi with h | h; have := OG.out.1.bounds h.1 h.2; omega; have := OG.out.2.1.bounds h.1 h.2; omega)
          exact q9.trans K10.out)
        go_upto_region 15 with fail
        go_cut [9, 10] (fun p q0 W => CutV u10 (pvMS s) (pvMH s) p W ∧ q0 = .bool (pvB s))
        case first =>
          go_wp2_with fail
          refine (iParseVessels_any _ s hn (HE.out.new U10.out) (cell_new HX.out U10.out)).mono ?_
          rintro e w4 ⟨ra, rn, rc, rb, rm, rd, rfl, o4, n4⟩
          go_wp2_with fail
          go_meet
          have ov : OwnV w4 u10.heap.size w4.heap.size _ _ _ _ _ _ _ _ := OwnV.mono o4 (by omega) (Nat.le_refl _)
          exact ⟨CutV.mk (BoxV.behind n4 ov), rfl⟩
        case rest =>
          obtain ⟨⟨D, ha, hn0, hc0, hb, hm0, hd0, rfl, hbh⟩, rfl⟩ := hcut
          obtain ⟨u11, rfl⟩ : ∃ u : World, u = wc := ⟨_, rfl⟩
          have BH := Lib.hid hbh; clear hbh
          have p0_u11 := BH.out.new.cell p0_u10
          have p1_u11 := BH.out.new.cell p1_u10
          have g0_u11 := BH.out.new.cell g0_u10
          have g1_u11 := BH.out.new.cell g1_u10
          have h0_u11 := BH.out.c0
          have h1_u11 := BH.out.c1
          clear p0_u10 p1_u10 g0_u10 g1_u10
          have OH := Lib.hid BH.out.own
          have OP11 := Lib.hid ((OP9.out.new K10.out).new BH.out.new)
          have OG11 := Lib.hid ((OG9.out.new K10.out).new BH.out.new)
          go_wp2_with fail
          refine (eqVessels_any _ _ _ _ _ _ _ _ _ _ _ _ _ _ _ _ _ OH.out.1.ints OH.out.2.1.ints OP11.out.1.ints OP11.out.2.1.ints).mono ?_
          rintro e u12 ⟨rfl, k⟩
          have g0_u12 := k.cell g0_u11
          have g1_u12 := k.cell g1_u11
          have K12 := Lib.hid k; clear k p0_u11 p1_u11 g0_u11 g1_u11
          go_wp2_with fail
          refine (heldVessels_any _ _ _ _ _ _ _ _ (OG11.out.new K12.out).1.ints (OG11.out.new K12.out).2.1.ints (by omega) (by omega)).mono ?_
          rintro e u13 ⟨rfl, k13⟩
          go_wp2
          go_ret
          exact ⟨rfl, ((U10.out.trans BH.out.new).trans K12.out).trans k13⟩
end Go.Proofs.YtknjobpdbbjeoaaDoor
