/- SwapVessels, the model's. -/
import Derived.Test.YtkonhflamnekcaaSpec5
import Derived.Test.YtkonhflamnekcaaImpl3
import Derived.Test.YtkonhflamnekcaaMarkV
namespace Go.Proofs.Ytkonhflamnekcaa
open Go.RowKit

def swapL (l : List Int) (i j : Nat) : List Int := (l.set i (l[j]?.getD 0)).set j (l[i]?.getD 0)
theorem swapL_length (l : List Int) (i j : Nat) : (swapL l i j).length = l.length := by simp [swapL]
def swapB (S H : List Int) (i j : Int) : Bool := oneB S H i && oneB S H j
def swapM (S H : List Int) (i j : Int) : List Int × List Int × Bool := if swapB S H i j = true then (swapL S i.toNat j.toNat, swapL H i.toNat j.toNat, true) else ([], [], false)
theorem swapM_no {S H : List Int} {i j : Int} (h : swapB S H i j = false) : swapM S H i j = ([], [], false) := by simp [swapM, h]
theorem swapM_yes {S H : List Int} {i j : Nat} (h : swapB S H i j = true) : swapM S H i j = (swapL S i j, swapL H i j, true) := by simp [swapM, h]
theorem swapM_small (S H : List Int) (i j : Int) : (swapM S H i j).1.length ≤ 1048576 ∧ (swapM S H i j).2.1.length ≤ 1048576 := by
  by_cases h : swapB S H i j = true
  · have h' := h
    unfold swapB at h'
    rw [Bool.and_eq_true] at h'
    obtain ⟨hg, _⟩ := oneB_iff.1 h'.1
    have h1 := hg.1
    have h2 := hg.2.1
    unfold swapM
    rw [if_pos h]
    exact ⟨by show (swapL S _ _).length ≤ _; rw [swapL_length]; omega, by show (swapL H _ _).length ≤ _; rw [swapL_length]; omega⟩
  · rw [swapM_no (by simpa using h)]
    exact ⟨by simp, by simp⟩
/-- Vessels that a call returns, of its own make. -/
def RetW (w : World) (S H : List Int) (ok : Bool) (e : Ending) (w' : World) : Prop :=
  ∃ sa n sc sb m sd, e = .returned (.tuple #[.agg #[.slice sa n sc, .slice sb m sd], .bool ok]) ∧ OwnV w' w.heap.size w'.heap.size sa n sc sb m sd S H ∧ New w w'

theorem OwnV.sizeStore {w : World} {lo hi : Nat} {ab : Option Addr} {n m ca cb br j : Nat} {S H : List Int} (h : OwnV w lo hi (some ⟨br, 0, none⟩) n ca ab m cb S H) (hj : j < n) (z : Int) :
    OwnV (w.setCell ⟨br, j, none⟩ (.int .i64 z)) lo hi (some ⟨br, 0, none⟩) n ca ab m cb (S.set j z) H :=
  ⟨h.1.store hj z, h.2.1.turned fun b hn hb hlt => Below.heap_setCell _ _ _ _ (fun e => h.2.2 (by omega) hn (by rw [hb]; simp [blkOf]; exact e.symm)), h.2.2⟩

theorem Own.cellAt {w : World} {lo hi b n cap : Nat} {l : List Int} (h : Own w lo hi (some ⟨b, 0, none⟩) n cap l) {j : Nat} (hj : j < n) : w.cell? ⟨b, j, none⟩ = some (.int .i64 (l[j]?.getD 0)) ∧ w.frozen? ⟨b, j, none⟩ = false := by
  obtain ⟨b', e, _, _, _, r⟩ := h.row hj
  cases e
  exact r j hj

set_option maxRecDepth 100000 in
set_option maxHeartbeats 8000000 in
theorem sSwapVessels_any (w : World) (aa ab : Option Addr) (n m ca cb : Nat) (S H : List Int) (i j : Int) (h1 : Ints w aa n ca S) (h2 : Ints w ab m cb H) :
    Calls Try.prog 35 #[.agg #[.slice aa n ca, .slice ab m cb], .int .i64 i, .int .i64 j] w (RetW w (swapM S H i j).1 (swapM S H i j).2.1 (swapM S H i j).2.2) := by
  have HA := Lib.hid h1; clear h1
  have HB := Lib.hid h2; clear h2
  by_cases hi : oneB S H i = true
  · by_cases hj : oneB S H j = true
    · obtain ⟨hG, k, rfl, hk⟩ := oneB_iff.1 hi
      obtain ⟨_, l, rfl, hl⟩ := oneB_iff.1 hj
      rw [swapM_yes (show swapB S H k l = true by unfold swapB; rw [hi, hj]; rfl)]
      have hn := HA.out.len
      have hm := HB.out.len
      have q1 : k < n := by omega
      have q2 : l < n := by omega
      have q3 : k < m := by have := hG.2.1; omega
      have q4 : l < m := by have := hG.2.1; omega
      have q5 : n ≤ 5 := by have := hG.1; omega
      have q6 : m ≤ 5 := by have := hG.1; have := hG.2.1; omega
      obtain ⟨ba, oa, rfl, sl, la⟩ := HA.out.at q2
      obtain ⟨bb, ob, rfl, tl, lb⟩ := HB.out.at q4
      obtain ⟨ba', oa', e, sk, _⟩ := HA.out.at q1
      cases e
      obtain ⟨bb', ob', e, tk, _⟩ := HB.out.at q3
      cases e
      have HN := Lib.hid (And.intro hn (And.intro hm (And.intro hk hl))); clear hn hm hk hl hG
      go_enter Try.func35, Try.ntmps35
      go_wp2_with fail
      refine (veOne_any _ _ _ _ _ _ _ _ _ _ (HA.out.new (by repeat (first | with_reducible exact New.refl _ | with_reducible assumption | refine New.drewN ?_ _ | refine New.drew ?_ | refine New.alloc ?_ _ | refine New.setCell ?_ (by first | omega | (simp; omega) | (simp; done)) _ | (refine New.trans ?_ (by assumption))))) (HB.out.new (by repeat (first | with_reducible exact New.refl _ | with_reducible assumption | refine New.drewN ?_ _ | refine New.drew ?_ | refine New.alloc ?_ _ | refine New.setCell ?_ (by first | omega | (simp; omega) | (simp; done)) _ | (refine New.trans ?_ (by assumption)))))).mono ?_
      rintro e w0 ⟨rfl, n0⟩
      have a0 : w0.cell? ⟨w.heap.size, 0, none⟩ = some (.slice (some ⟨ba, oa, none⟩) n ca) := n0.cell (by simp [go_sem])
      have a1 : w0.cell? ⟨w.heap.size, 1, none⟩ = some (.slice (some ⟨bb, ob, none⟩) m cb) := n0.cell (by simp [go_sem])
      have r0 : w0.cell? ⟨w.heap.size + 1, 0, none⟩ = some (.slice none 0 0) := n0.cell (by simp [go_sem])
      have r1 : w0.cell? ⟨w.heap.size + 1, 1, none⟩ = some (.slice none 0 0) := n0.cell (by simp [go_sem])
      have f0 : w0.frozen? ⟨w.heap.size + 1, 0, none⟩ = false := n0.frz (v := .slice none 0 0) (by simp [go_sem]) (by simp [go_sem])
      have f1 : w0.frozen? ⟨w.heap.size + 1, 1, none⟩ = false := n0.frz (v := .slice none 0 0) (by simp [go_sem]) (by simp [go_sem])
      have N0 := Lib.hid (show New w w0 from New.trans (by repeat (first | with_reducible exact New.refl _ | with_reducible assumption | refine New.drewN ?_ _ | refine New.drew ?_ | refine New.alloc ?_ _ | refine New.setCell ?_ (by first | omega | (simp; omega) | (simp; done)) _ | (refine New.trans ?_ (by assumption)))) n0); clear n0
      go_wp2_with fail
      refine (veOne_any _ _ _ _ _ _ _ _ _ _ (HA.out.new N0.out) (HB.out.new N0.out)).mono ?_
      rintro e w1 ⟨rfl, n1⟩
      have c0 := n1.cell a0
      have c1 := n1.cell a1
      have R1 := Lib.hid (New.boxed n1 r0 r1 f0 f1)
      have N1 := Lib.hid (N0.out.trans n1); clear n1 a0 a1 f0 f1 r0 r1
      have z0 : w.heap.size + 1 < w1.heap.size := World.block_lt_of_cell? _ _ R1.out.1
      have HA1 := Lib.hid (HA.out.new N1.out)
      have HB1 := Lib.hid (HB.out.new N1.out)
      go_upto_region 3 with fail
      go_cut [8] (fun p W => CutV w1 S H p W)
      case first =>
        go_region_held3 (fun w' => w'.cell? ⟨w.heap.size, 0, none⟩ = some (.slice (some ⟨ba, oa, none⟩) n ca) ∧ w'.cell? ⟨w.heap.size, 1, none⟩ = some (.slice (some ⟨bb, ob, none⟩) m cb)) (first | exact ⟨c0, c1⟩ | exact ⟨World.cell_kept c0, World.cell_kept c1⟩ | exact ⟨d0, d1⟩ | exact ⟨World.cell_kept d0, World.cell_kept d1⟩ | exact ⟨e0, e1⟩ | exact ⟨World.cell_kept e0, World.cell_kept e1⟩ | exact ⟨World.cell_set (World.cell_set e0 (by simp; omega)) (by simp; omega), World.cell_set (World.cell_set e1 (by simp; omega)) (by simp; omega)⟩ | fail)
          (first
            | (go_at_call_of 65 (Value.slice (some ⟨ba, oa, none⟩) n ca); refine (l1Own_any _ _ _ _ S ?_ ?_).mono ?_; exact HA1.out.new (by repeat (first | with_reducible exact New.refl _ | with_reducible assumption | refine New.drewN ?_ _ | refine New.drew ?_ | refine New.alloc ?_ _ | refine New.setCell ?_ (by first | omega | (simp; omega) | (simp; done)) _ | (refine New.trans ?_ (by assumption)))); omega; rintro e w2 ⟨sa, sc, rfl, o2, n2⟩; (try replace n2 := New.undrew n2); have d0 : w2.cell? ⟨w.heap.size, 0, none⟩ = some (.slice (some ⟨ba, oa, none⟩) n ca) := n2.cell (by first | exact c0 | exact World.cell_kept c0); have d1 : w2.cell? ⟨w.heap.size, 1, none⟩ = some (.slice (some ⟨bb, ob, none⟩) m cb) := n2.cell (by first | exact c1 | exact World.cell_kept c1); have z3 := n2.size; (try simp at z3); (try (have kk := New.box n2; obtain ⟨k0, k1, k2, k3, k4⟩ := kk)))
            | (go_at_call_of 65 (Value.slice (some ⟨bb, ob, none⟩) m cb); refine (l1Own_any _ _ _ _ H ?_ ?_).mono ?_; exact HB1.out.new (by repeat (first | with_reducible exact New.refl _ | with_reducible assumption | refine New.drewN ?_ _ | refine New.drew ?_ | refine New.alloc ?_ _ | refine New.setCell ?_ (by first | omega | (simp; omega) | (simp; done)) _ | (refine New.trans ?_ (by assumption)))); omega; rintro e w3 ⟨sb, sd, rfl, o3, n3⟩; (try replace n3 := New.undrew n3); have e0 : w3.cell? ⟨w.heap.size, 0, none⟩ = some (.slice (some ⟨ba, oa, none⟩) n ca) := n3.cell (by first | exact d0 | exact World.cell_kept d0); have e1 : w3.cell? ⟨w.heap.size, 1, none⟩ = some (.slice (some ⟨bb, ob, none⟩) m cb) := n3.cell (by first | exact d1 | exact World.cell_kept d1); have z4 := n3.size; (try simp at z4); (try (have kk := New.box n3; obtain ⟨j0, j1, j2, j3, j4⟩ := kk)); (try (have kk := New.boxed n3 k0 k1 k2 k3; obtain ⟨j0, j1, j2, j3⟩ := kk))))
        all_goals (go_wp2_with fail; go_meet)
        all_goals
          have n23 : New w2 w3 := by first | exact n3 | exact ((New.refl _).alloc _).trans n3
          have n12 : New w1 w2 := by first | exact n2 | exact ((New.refl _).alloc _).trans n2
          simp only [World.size_alloc, World.size_drew] at o2 o3
          have z5 := n12.size
          have z6 := n23.size
          have z7 := n2.size
          have z8 := n3.size
          (try simp only [World.size_alloc] at z7 z8)
          have ov : OwnV w3 w1.heap.size w3.heap.size sa n sc sb m sd S H := OwnV.two o2 o3 n23 (by omega) (by omega) (by omega) (by omega)
          first
            | exact CutV.mk (BoxV.behind (n12.trans n23) ov)
            | exact CutV.mk (BoxV.put (n12.trans n23) (by omega) (by omega) j0 j1 ov (fun h e => by have := o2.bounds h e; omega) (fun h e => by have := o3.bounds h e; omega))
      case rest =>
        obtain ⟨B, pa, pn, pc, pb, pm, pd, rfl, hbx⟩ := hcut
        obtain ⟨u1, rfl⟩ : ∃ u : World, u = wc := ⟨_, rfl⟩
        have BX := Lib.hid hbx; clear hbx
        have x0 := BX.out.new.cell c0
        have x1 := BX.out.new.cell c1
        have y0 := BX.out.c0
        have y1 := BX.out.c1
        have sl1 := (N1.out.trans BX.out.new).cell sl
        have sk1 := (N1.out.trans BX.out.new).cell sk
        have tl1 := (N1.out.trans BX.out.new).cell tl
        have tk1 := (N1.out.trans BX.out.new).cell tk
        clear c0 c1 sl sk tl tk
        obtain ⟨pl1, pl2⟩ := BX.out.own.len
        have v1 : k < pn := by have := HN.out.2.2.1; omega
        have v2 : l < pn := by have := HN.out.2.2.2; omega
        have v3 : k < pm := by have := HN.out.1; have := HN.out.2.1; have := HN.out.2.2.1; omega
        have v4 : l < pm := by have := HN.out.1; have := HN.out.2.1; have := HN.out.2.2.2; omega
        obtain ⟨gs, rfl, s1, s2, s3, s4⟩ := BX.out.own.1.row v1
        obtain ⟨gh, rfl, t1, t2, t3, t4⟩ := BX.out.own.2.1.row v3
        have hBs : B ≠ gs := fun e => BX.out.apa (by omega) (by simp [blkOf, e])
        have hBh : B ≠ gh := fun e => BX.out.apb (by omega) (by simp [blkOf, e])
        have zw := N1.out.size
        clear pl1 pl2
        clear s4 t4
        have OV1 := Lib.hid BX.out.own
        obtain ⟨r0, r1, f0, f1⟩ := New.boxed BX.out.new R1.out.1 R1.out.2.1 R1.out.2.2.1 R1.out.2.2.2
        have F1 := Lib.hid (And.intro r0 (And.intro r1 (And.intro f0 f1))); clear r0 r1 f0 f1
        obtain ⟨m0, m1⟩ := Own.cellAt OV1.out.1 v1
        go_upto_region 4 with fail
        go_region_held3 (fun w' => w'.cell? ⟨w.heap.size, 0, none⟩ = some (.slice (some ⟨ba, oa, none⟩) n ca) ∧ w'.cell? ⟨B, 0, none⟩ = some (.slice (some ⟨gs, 0, none⟩) pn pc) ∧ w'.cell? ⟨ba, oa + l, none⟩ = some (.int .i64 (S[l]?.getD 0)))
          (first | exact ⟨x0, y0, sl1⟩ | exact ⟨World.cell_set x0 (by simp; omega), World.cell_set y0 (by simpa using hBs), World.cell_set sl1 (by simp; omega)⟩ | fail) (fail)
        obtain ⟨u2, hu2⟩ : ∃ u, u = (u1.setCell ⟨gs, k, none⟩ (.int .i64 (S[l]?.getD 0))).drew := ⟨_, rfl⟩
        rw [← hu2]
        replace x0 : u2.cell? ⟨w.heap.size, 0, none⟩ = some (.slice (some ⟨ba, oa, none⟩) n ca) := by rw [hu2]; exact World.cell_set x0 (by simp; omega)
        replace x1 : u2.cell? ⟨w.heap.size, 1, none⟩ = some (.slice (some ⟨bb, ob, none⟩) m cb) := by rw [hu2]; exact World.cell_set x1 (by simp; omega)
        replace y0 : u2.cell? ⟨B, 0, none⟩ = some (.slice (some ⟨gs, 0, none⟩) pn pc) := by rw [hu2]; exact World.cell_set y0 (by simpa using hBs)
        replace y1 : u2.cell? ⟨B, 1, none⟩ = some (.slice (some ⟨gh, 0, none⟩) pm pd) := by rw [hu2]; exact World.cell_set y1 (by simpa using hBs)
        replace sl1 : u2.cell? ⟨ba, oa + l, none⟩ = some (.int .i64 (S[l]?.getD 0)) := by rw [hu2]; exact World.cell_set sl1 (by simp; omega)
        replace sk1 : u2.cell? ⟨ba, oa + k, none⟩ = some (.int .i64 (S[k]?.getD 0)) := by rw [hu2]; exact World.cell_set sk1 (by simp; omega)
        replace tl1 : u2.cell? ⟨bb, ob + l, none⟩ = some (.int .i64 (H[l]?.getD 0)) := by rw [hu2]; exact World.cell_set tl1 (by simp; omega)
        replace tk1 : u2.cell? ⟨bb, ob + k, none⟩ = some (.int .i64 (H[k]?.getD 0)) := by rw [hu2]; exact World.cell_set tk1 (by simp; omega)
        have OV2 := Lib.hid (show OwnV u2 _ _ _ _ _ _ _ _ _ _ from by rw [hu2]; exact (OV1.out.sizeStore v1 (S[l]?.getD 0)).new (New.refl _).drew)
        have F2 := Lib.hid (show u2.cell? ⟨w.heap.size + 1, 0, none⟩ = some (.slice none 0 0) ∧ u2.cell? ⟨w.heap.size + 1, 1, none⟩ = some (.slice none 0 0) ∧ u2.frozen? ⟨w.heap.size + 1, 0, none⟩ = false ∧ u2.frozen? ⟨w.heap.size + 1, 1, none⟩ = false from by rw [hu2]; exact ⟨World.cell_set F1.out.1 (by simp; omega), World.cell_set F1.out.2.1 (by simp; omega), by simpa using F1.out.2.2.1, by simpa using F1.out.2.2.2⟩)
        have NN2 := Lib.hid (show New w u2 from by rw [hu2]; exact ((N1.out.trans BX.out.new).setCell (by simp; omega) _).drew)
        have zu2 : u2.heap.size = u1.heap.size := by rw [hu2]; simp
        clear hu2 m0 m1
        obtain ⟨m0, m1⟩ := Own.cellAt OV2.out.1 v2
        go_upto_region 5 with fail
        go_region_held3 (fun w' => w'.cell? ⟨w.heap.size, 0, none⟩ = some (.slice (some ⟨ba, oa, none⟩) n ca) ∧ w'.cell? ⟨B, 0, none⟩ = some (.slice (some ⟨gs, 0, none⟩) pn pc) ∧ w'.cell? ⟨ba, oa + k, none⟩ = some (.int .i64 (S[k]?.getD 0)))
          (first | exact ⟨x0, y0, sk1⟩ | exact ⟨World.cell_set x0 (by simp; omega), World.cell_set y0 (by simpa using hBs), World.cell_set sk1 (by simp; omega)⟩ | fail) (fail)
        obtain ⟨u3, hu3⟩ : ∃ u, u = (u2.setCell ⟨gs, l, none⟩ (.int .i64 (S[k]?.getD 0))).drew := ⟨_, rfl⟩
        rw [← hu3]
        replace x0 : u3.cell? ⟨w.heap.size, 0, none⟩ = some (.slice (some ⟨ba, oa, none⟩) n ca) := by rw [hu3]; exact World.cell_set x0 (by simp; omega)
        replace x1 : u3.cell? ⟨w.heap.size, 1, none⟩ = some (.slice (some ⟨bb, ob, none⟩) m cb) := by rw [hu3]; exact World.cell_set x1 (by simp; omega)
        replace y0 : u3.cell? ⟨B, 0, none⟩ = some (.slice (some ⟨gs, 0, none⟩) pn pc) := by rw [hu3]; exact World.cell_set y0 (by simpa using hBs)
        replace y1 : u3.cell? ⟨B, 1, none⟩ = some (.slice (some ⟨gh, 0, none⟩) pm pd) := by rw [hu3]; exact World.cell_set y1 (by simpa using hBs)
        replace sl1 : u3.cell? ⟨ba, oa + l, none⟩ = some (.int .i64 (S[l]?.getD 0)) := by rw [hu3]; exact World.cell_set sl1 (by simp; omega)
        replace sk1 : u3.cell? ⟨ba, oa + k, none⟩ = some (.int .i64 (S[k]?.getD 0)) := by rw [hu3]; exact World.cell_set sk1 (by simp; omega)
        replace tl1 : u3.cell? ⟨bb, ob + l, none⟩ = some (.int .i64 (H[l]?.getD 0)) := by rw [hu3]; exact World.cell_set tl1 (by simp; omega)
        replace tk1 : u3.cell? ⟨bb, ob + k, none⟩ = some (.int .i64 (H[k]?.getD 0)) := by rw [hu3]; exact World.cell_set tk1 (by simp; omega)
        have OV3 := Lib.hid (show OwnV u3 _ _ _ _ _ _ _ _ _ _ from by rw [hu3]; exact (OV2.out.sizeStore v2 (S[k]?.getD 0)).new (New.refl _).drew)
        have F3 := Lib.hid (show u3.cell? ⟨w.heap.size + 1, 0, none⟩ = some (.slice none 0 0) ∧ u3.cell? ⟨w.heap.size + 1, 1, none⟩ = some (.slice none 0 0) ∧ u3.frozen? ⟨w.heap.size + 1, 0, none⟩ = false ∧ u3.frozen? ⟨w.heap.size + 1, 1, none⟩ = false from by rw [hu3]; exact ⟨World.cell_set F2.out.1 (by simp; omega), World.cell_set F2.out.2.1 (by simp; omega), by simpa using F2.out.2.2.1, by simpa using F2.out.2.2.2⟩)
        have NN3 := Lib.hid (show New w u3 from by rw [hu3]; exact (NN2.out.setCell (by simp; omega) _).drew)
        have zu3 : u3.heap.size = u2.heap.size := by rw [hu3]; simp
        clear hu3 m0 m1
        obtain ⟨m0, m1⟩ := Own.cellAt OV3.out.2.1 v3
        go_upto_region 6 with fail
        go_region_held3 (fun w' => w'.cell? ⟨w.heap.size, 1, none⟩ = some (.slice (some ⟨bb, ob, none⟩) m cb) ∧ w'.cell? ⟨B, 1, none⟩ = some (.slice (some ⟨gh, 0, none⟩) pm pd) ∧ w'.cell? ⟨bb, ob + l, none⟩ = some (.int .i64 (H[l]?.getD 0)))
          (first | exact ⟨x1, y1, tl1⟩ | exact ⟨World.cell_set x1 (by simp; omega), World.cell_set y1 (by simpa using hBh), World.cell_set tl1 (by simp; omega)⟩ | fail) (fail)
        obtain ⟨u4, hu4⟩ : ∃ u, u = (u3.setCell ⟨gh, k, none⟩ (.int .i64 (H[l]?.getD 0))).drew := ⟨_, rfl⟩
        rw [← hu4]
        replace x0 : u4.cell? ⟨w.heap.size, 0, none⟩ = some (.slice (some ⟨ba, oa, none⟩) n ca) := by rw [hu4]; exact World.cell_set x0 (by simp; omega)
        replace x1 : u4.cell? ⟨w.heap.size, 1, none⟩ = some (.slice (some ⟨bb, ob, none⟩) m cb) := by rw [hu4]; exact World.cell_set x1 (by simp; omega)
        replace y0 : u4.cell? ⟨B, 0, none⟩ = some (.slice (some ⟨gs, 0, none⟩) pn pc) := by rw [hu4]; exact World.cell_set y0 (by simpa using hBh)
        replace y1 : u4.cell? ⟨B, 1, none⟩ = some (.slice (some ⟨gh, 0, none⟩) pm pd) := by rw [hu4]; exact World.cell_set y1 (by simpa using hBh)
        replace sl1 : u4.cell? ⟨ba, oa + l, none⟩ = some (.int .i64 (S[l]?.getD 0)) := by rw [hu4]; exact World.cell_set sl1 (by simp; omega)
        replace sk1 : u4.cell? ⟨ba, oa + k, none⟩ = some (.int .i64 (S[k]?.getD 0)) := by rw [hu4]; exact World.cell_set sk1 (by simp; omega)
        replace tl1 : u4.cell? ⟨bb, ob + l, none⟩ = some (.int .i64 (H[l]?.getD 0)) := by rw [hu4]; exact World.cell_set tl1 (by simp; omega)
        replace tk1 : u4.cell? ⟨bb, ob + k, none⟩ = some (.int .i64 (H[k]?.getD 0)) := by rw [hu4]; exact World.cell_set tk1 (by simp; omega)
        have OV4 := Lib.hid (show OwnV u4 _ _ _ _ _ _ _ _ _ _ from by rw [hu4]; exact (OV3.out.heldStore v3 (H[l]?.getD 0)).new (New.refl _).drew)
        have F4 := Lib.hid (show u4.cell? ⟨w.heap.size + 1, 0, none⟩ = some (.slice none 0 0) ∧ u4.cell? ⟨w.heap.size + 1, 1, none⟩ = some (.slice none 0 0) ∧ u4.frozen? ⟨w.heap.size + 1, 0, none⟩ = false ∧ u4.frozen? ⟨w.heap.size + 1, 1, none⟩ = false from by rw [hu4]; exact ⟨World.cell_set F3.out.1 (by simp; omega), World.cell_set F3.out.2.1 (by simp; omega), by simpa using F3.out.2.2.1, by simpa using F3.out.2.2.2⟩)
        have NN4 := Lib.hid (show New w u4 from by rw [hu4]; exact (NN3.out.setCell (by simp; omega) _).drew)
        have zu4 : u4.heap.size = u3.heap.size := by rw [hu4]; simp
        clear hu4 m0 m1
        obtain ⟨m0, m1⟩ := Own.cellAt OV4.out.2.1 v4
        go_upto_region 7 with fail
        go_region_held3 (fun w' => w'.cell? ⟨w.heap.size, 1, none⟩ = some (.slice (some ⟨bb, ob, none⟩) m cb) ∧ w'.cell? ⟨B, 1, none⟩ = some (.slice (some ⟨gh, 0, none⟩) pm pd) ∧ w'.cell? ⟨bb, ob + k, none⟩ = some (.int .i64 (H[k]?.getD 0)))
          (first | exact ⟨x1, y1, tk1⟩ | exact ⟨World.cell_set x1 (by simp; omega), World.cell_set y1 (by simpa using hBh), World.cell_set tk1 (by simp; omega)⟩ | fail) (fail)
        obtain ⟨u5, hu5⟩ : ∃ u, u = (u4.setCell ⟨gh, l, none⟩ (.int .i64 (H[k]?.getD 0))).drew := ⟨_, rfl⟩
        rw [← hu5]
        replace x0 : u5.cell? ⟨w.heap.size, 0, none⟩ = some (.slice (some ⟨ba, oa, none⟩) n ca) := by rw [hu5]; exact World.cell_set x0 (by simp; omega)
        replace x1 : u5.cell? ⟨w.heap.size, 1, none⟩ = some (.slice (some ⟨bb, ob, none⟩) m cb) := by rw [hu5]; exact World.cell_set x1 (by simp; omega)
        replace y0 : u5.cell? ⟨B, 0, none⟩ = some (.slice (some ⟨gs, 0, none⟩) pn pc) := by rw [hu5]; exact World.cell_set y0 (by simpa using hBh)
        replace y1 : u5.cell? ⟨B, 1, none⟩ = some (.slice (some ⟨gh, 0, none⟩) pm pd) := by rw [hu5]; exact World.cell_set y1 (by simpa using hBh)
        replace sl1 : u5.cell? ⟨ba, oa + l, none⟩ = some (.int .i64 (S[l]?.getD 0)) := by rw [hu5]; exact World.cell_set sl1 (by simp; omega)
        replace sk1 : u5.cell? ⟨ba, oa + k, none⟩ = some (.int .i64 (S[k]?.getD 0)) := by rw [hu5]; exact World.cell_set sk1 (by simp; omega)
        replace tl1 : u5.cell? ⟨bb, ob + l, none⟩ = some (.int .i64 (H[l]?.getD 0)) := by rw [hu5]; exact World.cell_set tl1 (by simp; omega)
        replace tk1 : u5.cell? ⟨bb, ob + k, none⟩ = some (.int .i64 (H[k]?.getD 0)) := by rw [hu5]; exact World.cell_set tk1 (by simp; omega)
        have OV5 := Lib.hid (show OwnV u5 _ _ _ _ _ _ _ _ _ _ from by rw [hu5]; exact (OV4.out.heldStore v4 (H[k]?.getD 0)).new (New.refl _).drew)
        have F5 := Lib.hid (show u5.cell? ⟨w.heap.size + 1, 0, none⟩ = some (.slice none 0 0) ∧ u5.cell? ⟨w.heap.size + 1, 1, none⟩ = some (.slice none 0 0) ∧ u5.frozen? ⟨w.heap.size + 1, 0, none⟩ = false ∧ u5.frozen? ⟨w.heap.size + 1, 1, none⟩ = false from by rw [hu5]; exact ⟨World.cell_set F4.out.1 (by simp; omega), World.cell_set F4.out.2.1 (by simp; omega), by simpa using F4.out.2.2.1, by simpa using F4.out.2.2.2⟩)
        have NN5 := Lib.hid (show New w u5 from by rw [hu5]; exact (NN4.out.setCell (by simp; omega) _).drew)
        have zu5 : u5.heap.size = u4.heap.size := by rw [hu5]; simp
        clear hu5 m0 m1
        obtain ⟨r0, r1, f0, f1⟩ := F5.out
        have zz := BX.out.new.size
        clear x0 x1 sl1 sk1 tl1 tk1
        have ZU := Lib.hid (And.intro zu2 (And.intro zu3 (And.intro zu4 zu5))); clear zu2 zu3 zu4 zu5
        go_wp2
        have nn := NN5.out
        obtain ⟨zu2, zu3, zu4, zu5⟩ := ZU.out
        refine bodyPost_ret (v := .tuple #[.agg #[.slice (some ⟨gs, 0, none⟩) pn pc, .slice (some ⟨gh, 0, none⟩) pm pd], .bool true]) (by simp [results, Try.results35, go_sem, r0, r1]) rfl ⟨_, pn, pc, _, pm, pd, rfl, ?_, (by repeat (first | with_reducible exact New.refl _ | with_reducible assumption | refine New.drewN ?_ _ | refine New.drew ?_ | refine New.alloc ?_ _ | refine New.setCell ?_ (by first | omega | (simp; omega) | (simp; done)) _ | (refine New.trans ?_ (by assumption))))⟩
        exact ((OV5.out.setCell (.inl (by simp; omega)) _).setCell (.inl (by simp; omega)) _).mono (by omega) (by simp; omega)
    · have hj' : oneB S H j = false := by simpa using hj
      rw [swapM_no (show swapB S H i j = false by unfold swapB; rw [hi, hj']; rfl)]
      go_enter Try.func35, Try.ntmps35
      go_wp2_with fail
      refine (veOne_any _ _ _ _ _ _ _ _ _ _ (HA.out.new (by repeat (first | with_reducible exact New.refl _ | with_reducible assumption | refine New.drewN ?_ _ | refine New.drew ?_ | refine New.alloc ?_ _ | refine New.setCell ?_ (by first | omega | (simp; omega) | (simp; done)) _ | (refine New.trans ?_ (by assumption))))) (HB.out.new (by repeat (first | with_reducible exact New.refl _ | with_reducible assumption | refine New.drewN ?_ _ | refine New.drew ?_ | refine New.alloc ?_ _ | refine New.setCell ?_ (by first | omega | (simp; omega) | (simp; done)) _ | (refine New.trans ?_ (by assumption)))))).mono ?_
      rintro e w0 ⟨rfl, n0⟩
      have a0 : w0.cell? ⟨w.heap.size, 0, none⟩ = some (.slice aa n ca) := n0.cell (by simp [go_sem])
      have a1 : w0.cell? ⟨w.heap.size, 1, none⟩ = some (.slice ab m cb) := n0.cell (by simp [go_sem])
      have r0 : w0.cell? ⟨w.heap.size + 1, 0, none⟩ = some (.slice none 0 0) := n0.cell (by simp [go_sem])
      have r1 : w0.cell? ⟨w.heap.size + 1, 1, none⟩ = some (.slice none 0 0) := n0.cell (by simp [go_sem])
      have f0 : w0.frozen? ⟨w.heap.size + 1, 0, none⟩ = false := n0.frz (v := .slice none 0 0) (by simp [go_sem]) (by simp [go_sem])
      have f1 : w0.frozen? ⟨w.heap.size + 1, 1, none⟩ = false := n0.frz (v := .slice none 0 0) (by simp [go_sem]) (by simp [go_sem])
      have N0 := Lib.hid (show New w w0 from New.trans (by repeat (first | with_reducible exact New.refl _ | with_reducible assumption | refine New.drewN ?_ _ | refine New.drew ?_ | refine New.alloc ?_ _ | refine New.setCell ?_ (by first | omega | (simp; omega) | (simp; done)) _ | (refine New.trans ?_ (by assumption)))) n0); clear n0
      go_wp2_with fail
      refine (veOne_any _ _ _ _ _ _ _ _ _ _ (HA.out.new N0.out) (HB.out.new N0.out)).mono ?_
      rintro e w1 ⟨rfl, n1⟩
      obtain ⟨d0, d1, g0, g1⟩ := New.boxed n1 r0 r1 f0 f1
      have N1 := Lib.hid (N0.out.trans n1); clear n1 r0 r1 f0 f1 a0 a1
      go_wp2
      have nn := N1.out
      exact bodyPost_ret (v := .tuple #[.agg #[.slice none 0 0, .slice none 0 0], .bool false]) (by simp [results, Try.results35, go_sem, d0, d1]) rfl ⟨none, 0, 0, none, 0, 0, rfl, OwnV.nil _ _ _, (by repeat (first | with_reducible exact New.refl _ | with_reducible assumption | refine New.drewN ?_ _ | refine New.drew ?_ | refine New.alloc ?_ _ | refine New.setCell ?_ (by first | omega | (simp; omega) | (simp; done)) _ | (refine New.trans ?_ (by assumption))))⟩
  · have hi' : oneB S H i = false := by simpa using hi
    rw [swapM_no (show swapB S H i j = false by unfold swapB; rw [hi']; rfl)]
    go_enter Try.func35, Try.ntmps35
    go_wp2_with fail
    refine (veOne_any _ _ _ _ _ _ _ _ _ _ (HA.out.new (by repeat (first | with_reducible exact New.refl _ | with_reducible assumption | refine New.drewN ?_ _ | refine New.drew ?_ | refine New.alloc ?_ _ | refine New.setCell ?_ (by first | omega | (simp; omega) | (simp; done)) _ | (refine New.trans ?_ (by assumption))))) (HB.out.new (by repeat (first | with_reducible exact New.refl _ | with_reducible assumption | refine New.drewN ?_ _ | refine New.drew ?_ | refine New.alloc ?_ _ | refine New.setCell ?_ (by first | omega | (simp; omega) | (simp; done)) _ | (refine New.trans ?_ (by assumption)))))).mono ?_
    rintro e w0 ⟨rfl, n0⟩
    have r0 : w0.cell? ⟨w.heap.size + 1, 0, none⟩ = some (.slice none 0 0) := n0.cell (by simp [go_sem])
    have r1 : w0.cell? ⟨w.heap.size + 1, 1, none⟩ = some (.slice none 0 0) := n0.cell (by simp [go_sem])
    have f0 : w0.frozen? ⟨w.heap.size + 1, 0, none⟩ = false := n0.frz (v := .slice none 0 0) (by simp [go_sem]) (by simp [go_sem])
    have f1 : w0.frozen? ⟨w.heap.size + 1, 1, none⟩ = false := n0.frz (v := .slice none 0 0) (by simp [go_sem]) (by simp [go_sem])
    have N0 := Lib.hid (show New w w0 from New.trans (by repeat (first | with_reducible exact New.refl _ | with_reducible assumption | refine New.drewN ?_ _ | refine New.drew ?_ | refine New.alloc ?_ _ | refine New.setCell ?_ (by first | omega | (simp; omega) | (simp; done)) _ | (refine New.trans ?_ (by assumption)))) n0); clear n0
    go_wp2
    have nn := N0.out
    exact bodyPost_ret (v := .tuple #[.agg #[.slice none 0 0, .slice none 0 0], .bool false]) (by simp [results, Try.results35, go_sem, r0, r1]) rfl ⟨none, 0, 0, none, 0, 0, rfl, OwnV.nil _ _ _, (by repeat (first | with_reducible exact New.refl _ | with_reducible assumption | refine New.drewN ?_ _ | refine New.drew ?_ | refine New.alloc ?_ _ | refine New.setCell ?_ (by first | omega | (simp; omega) | (simp; done)) _ | (refine New.trans ?_ (by assumption))))⟩
end Go.Proofs.Ytkonhflamnekcaa
