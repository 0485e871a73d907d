/- SwapVessels, the program's. -/
import Derived.Test.YtkonhflamnekcaaSwap1
namespace Go.Proofs.Ytkonhflamnekcaa
open Go.RowKit

set_option maxRecDepth 100000 in
set_option maxHeartbeats 8000000 in
theorem iSwapVessels_any (w : World) (aa ab : Option Addr) (n m ca cb : Nat) (S H : List Int) (i j : Int) (h1 : Ints w aa n ca S) (h2 : Ints w ab m cb H) :
    Calls Try.prog 36 #[.agg #[.slice aa n ca, .slice ab m cb], .int .i64 i, .int .i64 j] w (RetW w (swapM S H i j).1 (swapM S H i j).2.1 (swapM S H i j).2.2) := by
  have HA := Lib.hid h1; clear h1
  have HB := Lib.hid h2; clear h2
  by_cases hg : goodB S H = true
  · have hG := goodB_iff.1 hg
    have hn := HA.out.len
    have hm := HB.out.len
    have q5 : n ≤ 5 := by have := hG.1; omega
    have HGG := Lib.hid hG; clear hG
    by_cases hi : inB 0 ((n : Int) - 1) i = true
    · have oi : oneB S H i = true := by unfold oneB; rw [hg, ← hn, hi]; rfl
      by_cases hj : inB 0 ((n : Int) - 1) j = true
      · have oj : oneB S H j = true := by unfold oneB; rw [hg, ← hn, hj]; rfl
        obtain ⟨_, k, rfl, hk⟩ := oneB_iff.1 oi
        obtain ⟨_, l, rfl, hl⟩ := oneB_iff.1 oj
        rw [swapM_yes (show swapB S H k l = true by unfold swapB; rw [oi, oj]; rfl)]
        have HN := Lib.hid (And.intro hn (And.intro hm (And.intro hk hl))); clear hn hm hk hl oi oj
        go_enter Try.func36, Try.ntmps36
        go_wp2_with fail
        refine (iAreVessels_any _ _ _ _ _ _ _ _ _ (HA.out.new (by repeat (first | with_reducible exact New.refl _ | with_reducible assumption | refine New.drewN ?_ _ | refine New.drew ?_ | refine New.alloc ?_ _ | refine New.setCell ?_ (by first | omega | (simp; omega) | (simp; done)) _ | (refine New.trans ?_ (by assumption))))) (HB.out.new (by repeat (first | with_reducible exact New.refl _ | with_reducible assumption | refine New.drewN ?_ _ | refine New.drew ?_ | refine New.alloc ?_ _ | refine New.setCell ?_ (by first | omega | (simp; omega) | (simp; done)) _ | (refine New.trans ?_ (by assumption)))))).mono ?_
        rintro e w0 ⟨rfl, n0⟩
        have a0 : w0.cell? ⟨w.heap.size, 0, none⟩ = some (.slice aa n ca) := n0.cell (by simp [go_sem])
        have a1 : w0.cell? ⟨w.heap.size, 1, none⟩ = some (.slice ab m cb) := n0.cell (by simp [go_sem])
        have r0 : w0.cell? ⟨w.heap.size + 1, 0, none⟩ = some (.slice none 0 0) := n0.cell (by simp [go_sem])
        have r1 : w0.cell? ⟨w.heap.size + 1, 1, none⟩ = some (.slice none 0 0) := n0.cell (by simp [go_sem])
        have f0 : w0.frozen? ⟨w.heap.size + 1, 0, none⟩ = false := n0.frz (v := .slice none 0 0) (by simp [go_sem]) (by simp [go_sem])
        have f1 : w0.frozen? ⟨w.heap.size + 1, 1, none⟩ = false := n0.frz (v := .slice none 0 0) (by simp [go_sem]) (by simp [go_sem])
        have N0 := Lib.hid (show New w w0 from New.trans (by repeat (first | with_reducible exact New.refl _ | with_reducible assumption | refine New.drewN ?_ _ | refine New.drew ?_ | refine New.alloc ?_ _ | refine New.setCell ?_ (by first | omega | (simp; omega) | (simp; done)) _ | (refine New.trans ?_ (by assumption)))) n0); clear n0
        go_wp2_with fail
        refine (isIndex_any _ _ _ _ _ _ _ _ q5).mono ?_
        rintro e wa ⟨rfl, na⟩
        have b0 := na.cell a0
        have b1 := na.cell a1
        have RA := Lib.hid (New.boxed na r0 r1 f0 f1)
        have NA := Lib.hid (N0.out.trans na); clear na a0 a1 r0 r1 f0 f1
        go_wp2_with fail
        refine (isIndex_any _ _ _ _ _ _ _ _ q5).mono ?_
        rintro e w1 ⟨rfl, n1⟩
        have c0 := n1.cell b0
        have c1 := n1.cell b1
        have R1 := Lib.hid (New.boxed n1 RA.out.1 RA.out.2.1 RA.out.2.2.1 RA.out.2.2.2)
        have N1 := Lib.hid (NA.out.trans n1); clear n1 b0 b1
        have z0 : w.heap.size + 1 < w1.heap.size := World.block_lt_of_cell? _ _ R1.out.1
        have HA1 := Lib.hid (HA.out.new N1.out)
        have HB1 := Lib.hid (HB.out.new N1.out)
        go_upto_region 3 with fail
        go_cut [8] (fun p W => CutV w1 S H p W)
        case first =>
          go_region_held3 (fun w' => w'.cell? ⟨w.heap.size, 0, none⟩ = some (.slice aa n ca) ∧ w'.cell? ⟨w.heap.size, 1, none⟩ = some (.slice ab m cb)) (first | exact ⟨c0, c1⟩ | exact ⟨World.cell_kept c0, World.cell_kept c1⟩ | exact ⟨d0, d1⟩ | exact ⟨World.cell_kept d0, World.cell_kept d1⟩ | exact ⟨e0, e1⟩ | exact ⟨World.cell_kept e0, World.cell_kept e1⟩ | exact ⟨World.cell_set (World.cell_set e0 (by simp; omega)) (by simp; omega), World.cell_set (World.cell_set e1 (by simp; omega)) (by simp; omega)⟩ | fail)
            (first
              | (go_at_call 56; refine (holdingOf_any _ _ _ _ _ _ _ H ?_ ?_).mono ?_; exact HB1.out.new (by repeat (first | with_reducible exact New.refl _ | with_reducible assumption | refine New.drewN ?_ _ | refine New.drew ?_ | refine New.alloc ?_ _ | refine New.setCell ?_ (by first | omega | (simp; omega) | (simp; done)) _ | (refine New.trans ?_ (by assumption)))); exact (by have := HGG.out.1; have := HGG.out.2.1; omega); rintro e w2 ⟨rfl, n2⟩; (try replace n2 := New.undrew n2); have d0 : w2.cell? ⟨w.heap.size, 0, none⟩ = some (.slice aa n ca) := n2.cell (by first | exact c0 | exact World.cell_kept c0); have d1 : w2.cell? ⟨w.heap.size, 1, none⟩ = some (.slice ab m cb) := n2.cell (by first | exact c1 | exact World.cell_kept c1); have z3 := n2.size; (try simp only [World.size_alloc] at z3); (try (have kk := New.box n2; obtain ⟨k0, k1, k2, k3, k4⟩ := kk)))
              | (go_at_call 46; refine (vesselsWith_any _ _ _ _ S H ?_ ?_ ?_ ?_).mono ?_; exact HA1.out.new ((show New w1 w2 by first | exact n2 | exact ((New.refl _).alloc _).trans n2).trans (by repeat (first | with_reducible exact New.refl _ | with_reducible assumption | refine New.drewN ?_ _ | refine New.drew ?_ | refine New.alloc ?_ _ | refine New.setCell ?_ (by first | omega | (simp; omega) | (simp; done)) _ | (refine New.trans ?_ (by assumption))))); exact HGG.out.1.1; exact HGG.out.1.2; exact HGG.out.2.1; rintro e w3 ⟨sa, sb, rfl, o3, n3⟩; (try replace n3 := New.undrew n3); have e0 : w3.cell? ⟨w.heap.size, 0, none⟩ = some (.slice aa n ca) := n3.cell (by first | exact d0 | exact World.cell_kept d0); have e1 : w3.cell? ⟨w.heap.size, 1, none⟩ = some (.slice ab m cb) := n3.cell (by first | exact d1 | exact World.cell_kept d1); have z4 := n3.size; (try simp only [World.size_alloc] at z4); (try (have kk := New.box n3; obtain ⟨j0, j1, j2, j3, j4⟩ := kk)); (try (have kk := New.boxed n3 k0 k1 k2 k3; obtain ⟨j0, j1, j2, j3⟩ := kk))))
          all_goals (go_wp2_with fail; go_meet)
          all_goals
            have n23 : New w2 w3 := by first | exact n3 | exact ((New.refl _).alloc _).trans n3
            have n12 : New w1 w2 := by first | exact n2 | exact ((New.refl _).alloc _).trans n2
            (try simp only [World.size_alloc] at o3)
            have z5 := n12.size
            have z6 := n23.size
            have ov : OwnV w3 w1.heap.size w3.heap.size sa n n sb n n S H := OwnV.mono o3 (by omega) (Nat.le_refl _)
            first
              | exact CutV.mk (BoxV.behind (n12.trans n23) ov)
              | exact CutV.mk (BoxV.put (n12.trans n23) (by omega) (by omega) j0 j1 ov (fun h e => by have := o3.b1 h e; omega) (fun h e => by have := o3.b2 h e; omega))
        case rest =>
          obtain ⟨B, pa, pn, pc, pb, pm, pd, rfl, hbx⟩ := hcut
          obtain ⟨u1, rfl⟩ : ∃ u : World, u = wc := ⟨_, rfl⟩
          have BX := Lib.hid hbx; clear hbx
          have y0 := BX.out.c0
          have y1 := BX.out.c1
          clear c0 c1
          obtain ⟨pl1, pl2⟩ := BX.out.own.len
          have v1 : k < pn := by have := HN.out.2.2.1; omega
          have v2 : l < pn := by have := HN.out.2.2.2; omega
          have v3 : k < pm := by have := HN.out.2.2.1; have := HGG.out.2.1; omega
          have v4 : l < pm := by have := HN.out.2.2.2; have := HGG.out.2.1; omega
          obtain ⟨gs, rfl, s1, s2, s3, s4⟩ := BX.out.own.1.row v1
          obtain ⟨gh, rfl, t1, t2, t3, t4⟩ := BX.out.own.2.1.row v3
          have hBs : B ≠ gs := fun e => BX.out.apa (by omega) (by simp [blkOf, e])
          have hBh : B ≠ gh := fun e => BX.out.apb (by omega) (by simp [blkOf, e])
          have zw := N1.out.size
          clear pl1 pl2 s4 t4
          have OV1 := Lib.hid BX.out.own
          obtain ⟨r0, r1, f0, f1⟩ := New.boxed BX.out.new R1.out.1 R1.out.2.1 R1.out.2.2.1 R1.out.2.2.2
          have F1 := Lib.hid (And.intro r0 (And.intro r1 (And.intro f0 f1))); clear r0 r1 f0 f1
          by_cases hkl : k = l
          · subst hkl
            obtain ⟨m0, m1⟩ := Own.cellAt OV1.out.1 v1
            go_upto_region 4 with fail
            go_cut [8] (fun p W => p = .pointer (some ⟨B, 0, none⟩) ∧ W = ((u1.setCell ⟨gs, k, none⟩ (.int .i64 (S[k]?.getD 0))).setCell ⟨gs, k, none⟩ (.int .i64 (S[k]?.getD 0))).drew)
            case first =>
              clear BX OV1 F1 R1 HA1 HB1 N1 NA N0 RA HGG HN
              go_region
              all_goals (go_wp2_with fail; go_meet; exact ⟨rfl, rfl⟩)
            case rest =>
              obtain ⟨rfl, hu2⟩ := hcut
              obtain ⟨u2, rfl⟩ : ∃ u : World, u = wc := ⟨_, rfl⟩
              replace y0 : u2.cell? ⟨B, 0, none⟩ = some (.slice (some ⟨gs, 0, none⟩) pn pc) := by rw [hu2]; exact World.cell_set (World.cell_set y0 (by simpa using hBs)) (by simpa using hBs)
              replace y1 : u2.cell? ⟨B, 1, none⟩ = some (.slice (some ⟨gh, 0, none⟩) pm pd) := by rw [hu2]; exact World.cell_set (World.cell_set y1 (by simpa using hBs)) (by simpa using hBs)
              have OV2 := Lib.hid (show OwnV u2 _ _ _ _ _ _ _ _ _ _ from by rw [hu2]; exact ((OV1.out.sizeStore v1 (S[k]?.getD 0)).sizeStore v1 (S[k]?.getD 0)).new (New.refl _).drew)
              have F2 := Lib.hid (show u2.cell? ⟨w.heap.size + 1, 0, none⟩ = some (.slice none 0 0) ∧ u2.cell? ⟨w.heap.size + 1, 1, none⟩ = some (.slice none 0 0) ∧ u2.frozen? ⟨w.heap.size + 1, 0, none⟩ = false ∧ u2.frozen? ⟨w.heap.size + 1, 1, none⟩ = false from by rw [hu2]; exact ⟨World.cell_set (World.cell_set F1.out.1 (by simp; omega)) (by simp; omega), World.cell_set (World.cell_set F1.out.2.1 (by simp; omega)) (by simp; omega), by simpa using F1.out.2.2.1, by simpa using F1.out.2.2.2⟩)
              have NN2 := Lib.hid (show New w u2 from by rw [hu2]; exact (((N1.out.trans BX.out.new).setCell (by simp; omega) _).setCell (by simp; omega) _).drew)
              have zu2 : u2.heap.size = u1.heap.size := by rw [hu2]; simp
              clear hu2 m0 m1
              obtain ⟨m0, m1⟩ := Own.cellAt OV2.out.2.1 v3
              go_upto_region 5 with fail
              go_cut [8] (fun p W => p = .pointer (some ⟨B, 0, none⟩) ∧ W = ((u2.setCell ⟨gh, k, none⟩ (.int .i64 (H[k]?.getD 0))).setCell ⟨gh, k, none⟩ (.int .i64 (H[k]?.getD 0))).drew)
              case first =>
                clear BX OV1 OV2 F1 F2 NN2 R1 HA1 HB1 N1 NA N0 RA HGG HN
                go_region
                all_goals (go_wp2_with fail; go_meet; exact ⟨rfl, rfl⟩)
              case rest =>
                obtain ⟨rfl, hu3⟩ := hcut
                obtain ⟨u3, rfl⟩ : ∃ u : World, u = wc := ⟨_, rfl⟩
                replace y0 : u3.cell? ⟨B, 0, none⟩ = some (.slice (some ⟨gs, 0, none⟩) pn pc) := by rw [hu3]; exact World.cell_set (World.cell_set y0 (by simpa using hBh)) (by simpa using hBh)
                replace y1 : u3.cell? ⟨B, 1, none⟩ = some (.slice (some ⟨gh, 0, none⟩) pm pd) := by rw [hu3]; exact World.cell_set (World.cell_set y1 (by simpa using hBh)) (by simpa using hBh)
                have OV3 := Lib.hid (show OwnV u3 _ _ _ _ _ _ _ _ _ _ from by rw [hu3]; exact ((OV2.out.heldStore v3 (H[k]?.getD 0)).heldStore v3 (H[k]?.getD 0)).new (New.refl _).drew)
                have F3 := Lib.hid (show u3.cell? ⟨w.heap.size + 1, 0, none⟩ = some (.slice none 0 0) ∧ u3.cell? ⟨w.heap.size + 1, 1, none⟩ = some (.slice none 0 0) ∧ u3.frozen? ⟨w.heap.size + 1, 0, none⟩ = false ∧ u3.frozen? ⟨w.heap.size + 1, 1, none⟩ = false from by rw [hu3]; exact ⟨World.cell_set (World.cell_set F2.out.1 (by simp; omega)) (by simp; omega), World.cell_set (World.cell_set F2.out.2.1 (by simp; omega)) (by simp; omega), by simpa using F2.out.2.2.1, by simpa using F2.out.2.2.2⟩)
                have NN3 := Lib.hid (show New w u3 from by rw [hu3]; exact ((NN2.out.setCell (by simp; omega) _).setCell (by simp; omega) _).drew)
                have zu3 : u3.heap.size = u2.heap.size := by rw [hu3]; simp
                clear hu3 m0 m1
                obtain ⟨r0, r1, f0, f1⟩ := F3.out
                have zz := BX.out.new.size
                have ZU := Lib.hid (And.intro zu2 zu3); clear zu2 zu3
                go_wp2
                have nn := NN3.out
                obtain ⟨zu2, zu3⟩ := ZU.out
                refine bodyPost_ret (v := .tuple #[.agg #[.slice (some ⟨gs, 0, none⟩) pn pc, .slice (some ⟨gh, 0, none⟩) pm pd], .bool true]) (by simp [results, Try.results36, go_sem, r0, r1]) rfl ⟨_, pn, pc, _, pm, pd, rfl, ?_, (by repeat (first | with_reducible exact New.refl _ | with_reducible assumption | refine New.drewN ?_ _ | refine New.drew ?_ | refine New.alloc ?_ _ | refine New.setCell ?_ (by first | omega | (simp; omega) | (simp; done)) _ | (refine New.trans ?_ (by assumption))))⟩
                exact ((OV3.out.setCell (.inl (by simp; omega)) _).setCell (.inl (by simp; omega)) _).mono (by omega) (by simp; omega)
          · obtain ⟨m0, m1⟩ := Own.cellAt OV1.out.1 v1
            obtain ⟨m2, m3⟩ := Own.cellAt OV1.out.1 v2
            go_upto_region 4 with fail
            go_cut [8] (fun p W => p = .pointer (some ⟨B, 0, none⟩) ∧ W = ((u1.setCell ⟨gs, k, none⟩ (.int .i64 (S[l]?.getD 0))).setCell ⟨gs, l, none⟩ (.int .i64 (S[k]?.getD 0))).drew)
            case first =>
              clear BX OV1 F1 R1 HA1 HB1 N1 NA N0 RA HGG HN
              go_region
              all_goals (go_wp2_with fail; go_meet; exact ⟨rfl, rfl⟩)
            case rest =>
              obtain ⟨rfl, hu2⟩ := hcut
              obtain ⟨u2, rfl⟩ : ∃ u : World, u = wc := ⟨_, rfl⟩
              replace y0 : u2.cell? ⟨B, 0, none⟩ = some (.slice (some ⟨gs, 0, none⟩) pn pc) := by rw [hu2]; exact World.cell_set (World.cell_set y0 (by simpa using hBs)) (by simpa using hBs)
              replace y1 : u2.cell? ⟨B, 1, none⟩ = some (.slice (some ⟨gh, 0, none⟩) pm pd) := by rw [hu2]; exact World.cell_set (World.cell_set y1 (by simpa using hBs)) (by simpa using hBs)
              have OV2 := Lib.hid (show OwnV u2 _ _ _ _ _ _ _ _ _ _ from by rw [hu2]; exact ((OV1.out.sizeStore v1 (S[l]?.getD 0)).sizeStore v2 (S[k]?.getD 0)).new (New.refl _).drew)
              have F2 := Lib.hid (show u2.cell? ⟨w.heap.size + 1, 0, none⟩ = some (.slice none 0 0) ∧ u2.cell? ⟨w.heap.size + 1, 1, none⟩ = some (.slice none 0 0) ∧ u2.frozen? ⟨w.heap.size + 1, 0, none⟩ = false ∧ u2.frozen? ⟨w.heap.size + 1, 1, none⟩ = false from by rw [hu2]; exact ⟨World.cell_set (World.cell_set F1.out.1 (by simp; omega)) (by simp; omega), World.cell_set (World.cell_set F1.out.2.1 (by simp; omega)) (by simp; omega), by simpa using F1.out.2.2.1, by simpa using F1.out.2.2.2⟩)
              have NN2 := Lib.hid (show New w u2 from by rw [hu2]; exact (((N1.out.trans BX.out.new).setCell (by simp; omega) _).setCell (by simp; omega) _).drew)
              have zu2 : u2.heap.size = u1.heap.size := by rw [hu2]; simp
              clear hu2 m0 m1 m2 m3
              obtain ⟨m0, m1⟩ := Own.cellAt OV2.out.2.1 v3
              obtain ⟨m2, m3⟩ := Own.cellAt OV2.out.2.1 v4
              go_upto_region 5 with fail
              go_cut [8] (fun p W => p = .pointer (some ⟨B, 0, none⟩) ∧ W = ((u2.setCell ⟨gh, k, none⟩ (.int .i64 (H[l]?.getD 0))).setCell ⟨gh, l, none⟩ (.int .i64 (H[k]?.getD 0))).drew)
              case first =>
                clear BX OV1 OV2 F1 F2 NN2 R1 HA1 HB1 N1 NA N0 RA HGG HN
                go_region
                all_goals (go_wp2_with fail; go_meet; exact ⟨rfl, rfl⟩)
              case rest =>
                obtain ⟨rfl, hu3⟩ := hcut
                obtain ⟨u3, rfl⟩ : ∃ u : World, u = wc := ⟨_, rfl⟩
                replace y0 : u3.cell? ⟨B, 0, none⟩ = some (.slice (some ⟨gs, 0, none⟩) pn pc) := by rw [hu3]; exact World.cell_set (World.cell_set y0 (by simpa using hBh)) (by simpa using hBh)
                replace y1 : u3.cell? ⟨B, 1, none⟩ = some (.slice (some ⟨gh, 0, none⟩) pm pd) := by rw [hu3]; exact World.cell_set (World.cell_set y1 (by simpa using hBh)) (by simpa using hBh)
                have OV3 := Lib.hid (show OwnV u3 _ _ _ _ _ _ _ _ _ _ from by rw [hu3]; exact ((OV2.out.heldStore v3 (H[l]?.getD 0)).heldStore v4 (H[k]?.getD 0)).new (New.refl _).drew)
                have F3 := Lib.hid (show u3.cell? ⟨w.heap.size + 1, 0, none⟩ = some (.slice none 0 0) ∧ u3.cell? ⟨w.heap.size + 1, 1, none⟩ = some (.slice none 0 0) ∧ u3.frozen? ⟨w.heap.size + 1, 0, none⟩ = false ∧ u3.frozen? ⟨w.heap.size + 1, 1, none⟩ = false from by rw [hu3]; exact ⟨World.cell_set (World.cell_set F2.out.1 (by simp; omega)) (by simp; omega), World.cell_set (World.cell_set F2.out.2.1 (by simp; omega)) (by simp; omega), by simpa using F2.out.2.2.1, by simpa using F2.out.2.2.2⟩)
                have NN3 := Lib.hid (show New w u3 from by rw [hu3]; exact ((NN2.out.setCell (by simp; omega) _).setCell (by simp; omega) _).drew)
                have zu3 : u3.heap.size = u2.heap.size := by rw [hu3]; simp
                clear hu3 m0 m1 m2 m3
                obtain ⟨r0, r1, f0, f1⟩ := F3.out
                have zz := BX.out.new.size
                have ZU := Lib.hid (And.intro zu2 zu3); clear zu2 zu3
                go_wp2
                have nn := NN3.out
                obtain ⟨zu2, zu3⟩ := ZU.out
                refine bodyPost_ret (v := .tuple #[.agg #[.slice (some ⟨gs, 0, none⟩) pn pc, .slice (some ⟨gh, 0, none⟩) pm pd], .bool true]) (by simp [results, Try.results36, go_sem, r0, r1]) rfl ⟨_, pn, pc, _, pm, pd, rfl, ?_, (by repeat (first | with_reducible exact New.refl _ | with_reducible assumption | refine New.drewN ?_ _ | refine New.drew ?_ | refine New.alloc ?_ _ | refine New.setCell ?_ (by first | omega | (simp; omega) | (simp; done)) _ | (refine New.trans ?_ (by assumption))))⟩
                exact ((OV3.out.setCell (.inl (by simp; omega)) _).setCell (.inl (by simp; omega)) _).mono (by omega) (by simp; omega)
      · have hj' : inB 0 ((n : Int) - 1) j = false := by simpa using hj
        have oj : oneB S H j = false := by unfold oneB; rw [hg, ← hn, hj']; rfl
        rw [swapM_no (show swapB S H i j = false by unfold swapB; rw [oi, oj]; rfl)]
        clear hn hm oi oj
        go_enter Try.func36, Try.ntmps36
        go_wp2_with fail
        refine (iAreVessels_any _ _ _ _ _ _ _ _ _ (HA.out.new (by repeat (first | with_reducible exact New.refl _ | with_reducible assumption | refine New.drewN ?_ _ | refine New.drew ?_ | refine New.alloc ?_ _ | refine New.setCell ?_ (by first | omega | (simp; omega) | (simp; done)) _ | (refine New.trans ?_ (by assumption))))) (HB.out.new (by repeat (first | with_reducible exact New.refl _ | with_reducible assumption | refine New.drewN ?_ _ | refine New.drew ?_ | refine New.alloc ?_ _ | refine New.setCell ?_ (by first | omega | (simp; omega) | (simp; done)) _ | (refine New.trans ?_ (by assumption)))))).mono ?_
        rintro e w0 ⟨rfl, n0⟩
        have a0 : w0.cell? ⟨w.heap.size, 0, none⟩ = some (.slice aa n ca) := n0.cell (by simp [go_sem])
        have a1 : w0.cell? ⟨w.heap.size, 1, none⟩ = some (.slice ab m cb) := n0.cell (by simp [go_sem])
        have r0 : w0.cell? ⟨w.heap.size + 1, 0, none⟩ = some (.slice none 0 0) := n0.cell (by simp [go_sem])
        have r1 : w0.cell? ⟨w.heap.size + 1, 1, none⟩ = some (.slice none 0 0) := n0.cell (by simp [go_sem])
        have f0 : w0.frozen? ⟨w.heap.size + 1, 0, none⟩ = false := n0.frz (v := .slice none 0 0) (by simp [go_sem]) (by simp [go_sem])
        have f1 : w0.frozen? ⟨w.heap.size + 1, 1, none⟩ = false := n0.frz (v := .slice none 0 0) (by simp [go_sem]) (by simp [go_sem])
        have N0 := Lib.hid (show New w w0 from New.trans (by repeat (first | with_reducible exact New.refl _ | with_reducible assumption | refine New.drewN ?_ _ | refine New.drew ?_ | refine New.alloc ?_ _ | refine New.setCell ?_ (by first | omega | (simp; omega) | (simp; done)) _ | (refine New.trans ?_ (by assumption)))) n0); clear n0
        go_wp2_with fail
        refine (isIndex_any _ _ _ _ _ _ _ _ q5).mono ?_
        rintro e wa ⟨rfl, na⟩
        have b0 := na.cell a0
        have b1 := na.cell a1
        have RA := Lib.hid (New.boxed na r0 r1 f0 f1)
        have NA := Lib.hid (N0.out.trans na); clear na a0 a1 r0 r1 f0 f1
        go_wp2_with fail
        refine (isIndex_any _ _ _ _ _ _ _ _ q5).mono ?_
        rintro e w1 ⟨rfl, n1⟩
        obtain ⟨d0, d1, g0, g1⟩ := New.boxed n1 RA.out.1 RA.out.2.1 RA.out.2.2.1 RA.out.2.2.2
        have N1 := Lib.hid (NA.out.trans n1); clear n1 b0 b1
        go_wp2
        have nn := N1.out
        exact bodyPost_ret (v := .tuple #[.agg #[.slice none 0 0, .slice none 0 0], .bool false]) (by simp [results, Try.results36, go_sem, d0, d1]) rfl ⟨none, 0, 0, none, 0, 0, rfl, OwnV.nil _ _ _, (by repeat (first | with_reducible exact New.refl _ | with_reducible assumption | refine New.drewN ?_ _ | refine New.drew ?_ | refine New.alloc ?_ _ | refine New.setCell ?_ (by first | omega | (simp; omega) | (simp; done)) _ | (refine New.trans ?_ (by assumption))))⟩
    · have hi' : inB 0 ((n : Int) - 1) i = false := by simpa using hi
      have oi : oneB S H i = false := by unfold oneB; rw [hg, ← hn, hi']; rfl
      rw [swapM_no (show swapB S H i j = false by unfold swapB; rw [oi]; rfl)]
      clear hn hm oi
      go_enter Try.func36, Try.ntmps36
      go_wp2_with fail
      refine (iAreVessels_any _ _ _ _ _ _ _ _ _ (HA.out.new (by repeat (first | with_reducible exact New.refl _ | with_reducible assumption | refine New.drewN ?_ _ | refine New.drew ?_ | refine New.alloc ?_ _ | refine New.setCell ?_ (by first | omega | (simp; omega) | (simp; done)) _ | (refine New.trans ?_ (by assumption))))) (HB.out.new (by repeat (first | with_reducible exact New.refl _ | with_reducible assumption | refine New.drewN ?_ _ | refine New.drew ?_ | refine New.alloc ?_ _ | refine New.setCell ?_ (by first | omega | (simp; omega) | (simp; done)) _ | (refine New.trans ?_ (by assumption)))))).mono ?_
      rintro e w0 ⟨rfl, n0⟩
      have a0 : w0.cell? ⟨w.heap.size, 0, none⟩ = some (.slice aa n ca) := n0.cell (by simp [go_sem])
      have a1 : w0.cell? ⟨w.heap.size, 1, none⟩ = some (.slice ab m cb) := n0.cell (by simp [go_sem])
      have r0 : w0.cell? ⟨w.heap.size + 1, 0, none⟩ = some (.slice none 0 0) := n0.cell (by simp [go_sem])
      have r1 : w0.cell? ⟨w.heap.size + 1, 1, none⟩ = some (.slice none 0 0) := n0.cell (by simp [go_sem])
      have f0 : w0.frozen? ⟨w.heap.size + 1, 0, none⟩ = false := n0.frz (v := .slice none 0 0) (by simp [go_sem]) (by simp [go_sem])
      have f1 : w0.frozen? ⟨w.heap.size + 1, 1, none⟩ = false := n0.frz (v := .slice none 0 0) (by simp [go_sem]) (by simp [go_sem])
      have N0 := Lib.hid (show New w w0 from New.trans (by repeat (first | with_reducible exact New.refl _ | with_reducible assumption | refine New.drewN ?_ _ | refine New.drew ?_ | refine New.alloc ?_ _ | refine New.setCell ?_ (by first | omega | (simp; omega) | (simp; done)) _ | (refine New.trans ?_ (by assumption)))) n0); clear n0
      go_wp2_with fail
      refine (isIndex_any _ _ _ _ _ _ _ _ q5).mono ?_
      rintro e wa ⟨rfl, na⟩
      obtain ⟨d0, d1, g0, g1⟩ := New.boxed na r0 r1 f0 f1
      have N1 := Lib.hid (N0.out.trans na); clear na a0 a1 r0 r1 f0 f1
      go_wp2
      have nn := N1.out
      exact bodyPost_ret (v := .tuple #[.agg #[.slice none 0 0, .slice none 0 0], .bool false]) (by simp [results, Try.results36, go_sem, d0, d1]) rfl ⟨none, 0, 0, none, 0, 0, rfl, OwnV.nil _ _ _, (by repeat (first | with_reducible exact New.refl _ | with_reducible assumption | refine New.drewN ?_ _ | refine New.drew ?_ | refine New.alloc ?_ _ | refine New.setCell ?_ (by first | omega | (simp; omega) | (simp; done)) _ | (refine New.trans ?_ (by assumption))))⟩
  · have hg' : goodB S H = false := by simpa using hg
    have oi : oneB S H i = false := by unfold oneB; rw [hg']; rfl
    rw [swapM_no (show swapB S H i j = false by unfold swapB; rw [oi]; rfl)]
    clear oi
    go_enter Try.func36, Try.ntmps36
    go_wp2_with fail
    refine (iAreVessels_any _ _ _ _ _ _ _ _ _ (HA.out.new (by repeat (first | with_reducible exact New.refl _ | with_reducible assumption | refine New.drewN ?_ _ | refine New.drew ?_ | refine New.alloc ?_ _ | refine New.setCell ?_ (by first | omega | (simp; omega) | (simp; done)) _ | (refine New.trans ?_ (by assumption))))) (HB.out.new (by repeat (first | with_reducible exact New.refl _ | with_reducible assumption | refine New.drewN ?_ _ | refine New.drew ?_ | refine New.alloc ?_ _ | refine New.setCell ?_ (by first | omega | (simp; omega) | (simp; done)) _ | (refine New.trans ?_ (by assumption)))))).mono ?_
    rintro e w0 ⟨rfl, n0⟩
    have a0 : w0.cell? ⟨w.heap.size, 0, none⟩ = some (.slice aa n ca) := n0.cell (by simp [go_sem])
    have a1 : w0.cell? ⟨w.heap.size, 1, none⟩ = some (.slice ab m cb) := n0.cell (by simp [go_sem])
    have r0 : w0.cell? ⟨w.heap.size + 1, 0, none⟩ = some (.slice none 0 0) := n0.cell (by simp [go_sem])
    have r1 : w0.cell? ⟨w.heap.size + 1, 1, none⟩ = some (.slice none 0 0) := n0.cell (by simp [go_sem])
    have f0 : w0.frozen? ⟨w.heap.size + 1, 0, none⟩ = false := n0.frz (v := .slice none 0 0) (by simp [go_sem]) (by simp [go_sem])
    have f1 : w0.frozen? ⟨w.heap.size + 1, 1, none⟩ = false := n0.frz (v := .slice none 0 0) (by simp [go_sem]) (by simp [go_sem])
    have N0 := Lib.hid (show New w w0 from New.trans (by repeat (first | with_reducible exact New.refl _ | with_reducible assumption | refine New.drewN ?_ _ | refine New.drew ?_ | refine New.alloc ?_ _ | refine New.setCell ?_ (by first | omega | (simp; omega) | (simp; done)) _ | (refine New.trans ?_ (by assumption)))) n0); clear n0
    clear a0 a1
    go_wp2
    have nn := N0.out
    exact bodyPost_ret (v := .tuple #[.agg #[.slice none 0 0, .slice none 0 0], .bool false]) (by simp [results, Try.results36, go_sem, r0, r1]) rfl ⟨none, 0, 0, none, 0, 0, rfl, OwnV.nil _ _ _, (by repeat (first | with_reducible exact New.refl _ | with_reducible assumption | refine New.drewN ?_ _ | refine New.drew ?_ | refine New.alloc ?_ _ | refine New.setCell ?_ (by first | omega | (simp; omega) | (simp; done)) _ | (refine New.trans ?_ (by assumption))))⟩
end Go.Proofs.Ytkonhflamnekcaa
