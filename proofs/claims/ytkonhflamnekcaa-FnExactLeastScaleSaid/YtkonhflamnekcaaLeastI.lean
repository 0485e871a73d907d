/- LeastScale, the program's. -/
import Derived.Test.YtkonhflamnekcaaUpto
namespace Go.Proofs.Ytkonhflamnekcaa
open Go.RowKit

set_option maxRecDepth 100000 in
set_option maxHeartbeats 8000000 in
theorem iLeastScale_any (w : World) (aa ab : Option Addr) (n m ca cb : Nat) (S H : List Int) (h1 : Ints w aa n ca S) (h2 : Ints w ab m cb H) :
    Calls Try.prog 40 #[.agg #[.slice aa n ca, .slice ab m cb]] w (RetWI w (leastM S H).1 (leastM S H).2.1 (leastM S H).2.2.1 (leastM S H).2.2.2) := by
  have HA := Lib.hid h1; clear h1
  have HB := Lib.hid h2; clear h2
  by_cases hg : goodB S H = true
  · have hG := goodB_iff.1 hg
    have hn := HA.out.len
    have hm := HB.out.len
    have q5 : n ≤ 5 := by have := hG.1; omega
    have q1 : 1 ≤ n := by have := hG.1; omega
    have qm : m ≤ n ∧ n ≤ m := by have := hG.2.1; omega
    have HGG := Lib.hid hG; clear hG
    rw [leastM_yes hg]
    obtain ⟨dv, hdv⟩ : ∃ dv : Nat, dv = cdV S H := ⟨_, rfl⟩
    have hd := cdV_bd HGG.out
    rw [← hdv] at hd
    obtain ⟨hd1, hd2⟩ := hd
    have HN := Lib.hid (And.intro hn hm); clear hn hm
    have HD := Lib.hid hdv; clear hdv
    go_enter Try.func40, Try.ntmps40
    go_wp2_with fail
    refine (iAreVessels_any _ _ _ _ _ _ _ _ _ (HA.out.new (by repeat (first | with_reducible exact New.refl _ | with_reducible assumption | refine New.drewN ?_ _ | refine New.drew ?_ | refine New.alloc ?_ _ | refine New.setCell ?_ (by first | omega | (simp; omega) | (simp; done)) _ | (refine New.trans ?_ (by assumption))))) (HB.out.new (by repeat (first | with_reducible exact New.refl _ | with_reducible assumption | refine New.drewN ?_ _ | refine New.drew ?_ | refine New.alloc ?_ _ | refine New.setCell ?_ (by first | omega | (simp; omega) | (simp; done)) _ | (refine New.trans ?_ (by assumption)))))).mono ?_
    rintro e w0 ⟨rfl, n0⟩
    have a0 : w0.cell? ⟨w.heap.size, 0, none⟩ = some (.slice aa n ca) := n0.cell (by simp [go_sem])
    have a1 : w0.cell? ⟨w.heap.size, 1, none⟩ = some (.slice ab m cb) := n0.cell (by simp [go_sem])
    have r0 : w0.cell? ⟨w.heap.size + 1, 0, none⟩ = some (.slice none 0 0) := n0.cell (by simp [go_sem])
    have r1 : w0.cell? ⟨w.heap.size + 1, 1, none⟩ = some (.slice none 0 0) := n0.cell (by simp [go_sem])
    have f0 : w0.frozen? ⟨w.heap.size + 1, 0, none⟩ = false := n0.frz (v := .slice none 0 0) (by simp [go_sem]) (by simp [go_sem])
    have f1 : w0.frozen? ⟨w.heap.size + 1, 1, none⟩ = false := n0.frz (v := .slice none 0 0) (by simp [go_sem]) (by simp [go_sem])
    have N0 := Lib.hid (show New w w0 from New.trans (by repeat (first | with_reducible exact New.refl _ | with_reducible assumption | refine New.drewN ?_ _ | refine New.drew ?_ | refine New.alloc ?_ _ | refine New.setCell ?_ (by first | omega | (simp; omega) | (simp; done)) _ | (refine New.trans ?_ (by assumption)))) n0); clear n0
    go_wp2_with fail
    refine (commonDivisor_any _ _ _ _ _ _ _ S H (HA.out.new N0.out) (HB.out.new N0.out) HGG.out).mono ?_
    rw [← HD.out]
    rintro e w1 ⟨rfl, n1⟩
    have c0 := n1.cell a0
    have c1 := n1.cell a1
    have R1 := Lib.hid (New.boxed n1 r0 r1 f0 f1)
    have N1 := Lib.hid (N0.out.trans n1); clear n1 a0 a1 r0 r1 f0 f1
    have z0 : w.heap.size + 1 < w1.heap.size := World.block_lt_of_cell? _ _ R1.out.1
    have HA1 := Lib.hid (HA.out.new N1.out)
    have HB1 := Lib.hid (HB.out.new N1.out)
    go_upto_region 4 with fail
    go_cut [6] (fun p W => CutV w1 S H p W)
    case first =>
      go_region_held3 (fun w' => w'.cell? ⟨w.heap.size, 0, none⟩ = some (.slice aa n ca) ∧ w'.cell? ⟨w.heap.size, 1, none⟩ = some (.slice ab m cb)) (first | exact ⟨c0, c1⟩ | exact ⟨World.cell_kept c0, World.cell_kept c1⟩ | exact ⟨d0, d1⟩ | exact ⟨World.cell_kept d0, World.cell_kept d1⟩ | exact ⟨e0, e1⟩ | exact ⟨World.cell_kept e0, World.cell_kept e1⟩ | exact ⟨World.cell_set (World.cell_set e0 (by simp; omega)) (by simp; omega), World.cell_set (World.cell_set e1 (by simp; omega)) (by simp; omega)⟩ | fail)
        (first
          | (go_at_call 56; refine (holdingOf_any _ _ _ _ _ _ _ H ?_ ?_).mono ?_; exact HB1.out.new (by repeat (first | with_reducible exact New.refl _ | with_reducible assumption | refine New.drewN ?_ _ | refine New.drew ?_ | refine New.alloc ?_ _ | refine New.setCell ?_ (by first | omega | (simp; omega) | (simp; done)) _ | (refine New.trans ?_ (by assumption)))); exact (by have := HGG.out.1; have := HGG.out.2.1; omega); rintro e w2 ⟨rfl, n2⟩; (try replace n2 := New.undrew n2); have d0 : w2.cell? ⟨w.heap.size, 0, none⟩ = some (.slice aa n ca) := n2.cell (by first | exact c0 | exact World.cell_kept c0); have d1 : w2.cell? ⟨w.heap.size, 1, none⟩ = some (.slice ab m cb) := n2.cell (by first | exact c1 | exact World.cell_kept c1); have z3 := n2.size; (try simp only [World.size_alloc] at z3); (try (have kk := New.box n2; obtain ⟨k0, k1, k2, k3, k4⟩ := kk)))
          | (go_at_call 46; refine (vesselsWith_any _ _ _ _ S H ?_ ?_ ?_ ?_).mono ?_; exact HA1.out.new ((show New w1 w2 by first | exact n2 | exact ((New.refl _).alloc _).trans n2).trans (by repeat (first | with_reducible exact New.refl _ | with_reducible assumption | refine New.drewN ?_ _ | refine New.drew ?_ | refine New.alloc ?_ _ | refine New.setCell ?_ (by first | omega | (simp; omega) | (simp; done)) _ | (refine New.trans ?_ (by assumption))))); exact HGG.out.1.1; exact HGG.out.1.2; exact HGG.out.2.1; rintro e w3 ⟨sa, sb, rfl, o3, n3⟩; (try replace n3 := New.undrew n3); have e0 : w3.cell? ⟨w.heap.size, 0, none⟩ = some (.slice aa n ca) := n3.cell (by first | exact d0 | exact World.cell_kept d0); have e1 : w3.cell? ⟨w.heap.size, 1, none⟩ = some (.slice ab m cb) := n3.cell (by first | exact d1 | exact World.cell_kept d1); have z4 := n3.size; (try simp only [World.size_alloc] at z4); (try (have kk := New.box n3; obtain ⟨j0, j1, j2, j3, j4⟩ := kk)); (try (have kk := New.boxed n3 k0 k1 k2 k3; obtain ⟨j0, j1, j2, j3⟩ := kk))))
      all_goals (go_wp2_with fail; go_meet)
      all_goals
        have n23 : New w2 w3 := by first | exact n3 | exact ((New.refl _).alloc _).trans n3
        have n12 : New w1 w2 := by first | exact n2 | exact ((New.refl _).alloc _).trans n2
        (try simp only [World.size_alloc] at o3)
        have z5 := n12.size
        have z6 := n23.size
        have ov : OwnV w3 w1.heap.size w3.heap.size sa n n sb n n S H := OwnV.mono o3 (by omega) (Nat.le_refl _)
        first
          | exact CutV.mk (BoxV.behind (n12.trans n23) ov)
          | exact CutV.mk (BoxV.put (n12.trans n23) (by omega) (by omega) j0 j1 ov (fun h e => by have := o3.b1 h e; omega) (fun h e => by have := o3.b2 h e; omega))
    case rest =>
      obtain ⟨B, pa, pn, pc, pb, pm, pd, rfl, hbx⟩ := hcut
      obtain ⟨u1, rfl⟩ : ∃ u : World, u = wc := ⟨_, rfl⟩
      have BX := Lib.hid hbx; clear hbx
      have y0 := BX.out.c0
      have y1 := BX.out.c1
      clear c0 c1
      obtain ⟨pl1, pl2⟩ := BX.out.own.len
      obtain rfl : pn = n := by have := HN.out.1; omega
      obtain rfl : pm = m := by have := HN.out.2; omega
      obtain ⟨gs, rfl, s1, s2, s3, s4⟩ := BX.out.own.1.row (show 0 < pn by omega)
      obtain ⟨gh, rfl, t1, t2, t3, t4⟩ := BX.out.own.2.1.row (show 0 < pm by omega)
      have hBs : B ≠ gs := fun e => BX.out.apa (by omega) (by simp [blkOf, e])
      have hBh : B ≠ gh := fun e => BX.out.apb (by omega) (by simp [blkOf, e])
      have hsh : gs ≠ gh := fun e => BX.out.own.2.2 (by omega) (by omega) (by simp [blkOf, e])
      have zw := N1.out.size
      clear pl1 pl2 s4 t4
      have NB := Lib.hid BX.out.new
      go_wp2
      go_loopw [22] (fun i wr => ∃ k : Nat, k ≤ pn ∧ i = .int .i64 k ∧ New w1 wr ∧ wr.cell? ⟨B, 0, none⟩ = some (.slice (some ⟨gs, 0, none⟩) pn pc) ∧ wr.cell? ⟨B, 1, none⟩ = some (.slice (some ⟨gh, 0, none⟩) pm pd) ∧ OwnV wr w1.heap.size wr.heap.size (some ⟨gs, 0, none⟩) pn pc (some ⟨gh, 0, none⟩) pm pd (upto (· / (dv : Int)) S k) (upto (· / (dv : Int)) H k)) (fun i _ => pn - (intOf i).toNat)
      case atStart => exact ⟨0, Nat.zero_le _, rfl, NB.out, y0, y1, by rw [upto_zero, upto_zero]; exact BX.out.own⟩
      case round =>
        obtain ⟨k, hk, rfl, hnw, y0, y1, hov⟩ := hrel
        have NW := Lib.hid hnw; clear hnw
        have OV := Lib.hid hov; clear hov
        by_cases hlt : k < pn
        · obtain ⟨s, h, es, eh, b1, b2, b3⟩ := HGG.out.nats (show k < S.length by have := HN.out.1; omega)
          obtain ⟨g1, g2⟩ := Own.cellAt OV.out.1 hlt
          obtain ⟨g3, g4⟩ := Own.cellAt OV.out.2.1 (show k < pm by omega)
          rw [upto_at (by simp), es] at g1
          rw [upto_at (by simp), eh] at g3
          have ES := Lib.hid es; clear es
          have EH := Lib.hid eh; clear eh
          have v1 : 0 ≤ (s : Int) / (dv : Int) := Int.ediv_nonneg (by omega) (by omega)
          have v2 : (s : Int) / (dv : Int) ≤ 60 := Int.le_trans (Int.ediv_le_self _ (by omega)) (by omega)
          have v3 : 0 ≤ (h : Int) / (dv : Int) := Int.ediv_nonneg (by omega) (by omega)
          have v4 : (h : Int) / (dv : Int) ≤ 60 := Int.le_trans (Int.ediv_le_self _ (by omega)) (by omega)
          go_wp2
          go_roundw
          case rel =>
            refine ⟨k + 1, by omega, by go_num, (NW.out.setCell s1 _).setCell t1 _, World.cell_set (World.cell_set y0 hBs) hBh, World.cell_set (World.cell_set y1 hBs) hBh, ?_⟩
            have q := (OV.out.sizeStore hlt ((s : Int) / (dv : Int))).heldStore (show k < pm by omega) ((h : Int) / (dv : Int))
            rw [upto_put (f := (· / (dv : Int))) (by simp) (by have := HN.out.1; omega) ES.out, upto_put (f := (· / (dv : Int))) (by simp) (by have := HN.out.2; omega) EH.out] at q
            exact q.mono (Nat.le_refl _) (by first | exact Nat.le_refl _ | (simp; done) | omega)
          case measure => simp [intOf]; omega
        · obtain rfl : k = pn := by omega
          obtain ⟨r0, r1, f0, f1⟩ := New.boxed NW.out R1.out.1 R1.out.2.1 R1.out.2.2.1 R1.out.2.2.2
          go_wp2
          have nn := N1.out.trans NW.out
          have q := OV.out
          rw [upto_all _ (by have := HN.out.1; omega), upto_all _ (by have := HN.out.2; omega), HD.out] at q
          rw [← HD.out] at q ⊢
          refine bodyPost_ret (v := .tuple #[.agg #[.slice (some ⟨gs, 0, none⟩) k pc, .slice (some ⟨gh, 0, none⟩) pm pd], .int .i64 (dv : Int), .bool true]) (by simp [results, Try.results40, go_sem, r0, r1]) rfl ⟨_, k, pc, _, pm, pd, rfl, ?_, (by repeat (first | with_reducible exact New.refl _ | with_reducible assumption | refine New.drewN ?_ _ | refine New.drew ?_ | refine New.alloc ?_ _ | refine New.setCell ?_ (by first | omega | (simp; omega) | (simp; done)) _ | (refine New.trans ?_ (by assumption))))⟩
          exact ((q.setCell (.inl (by simp; omega)) _).setCell (.inl (by simp; omega)) _).mono (by omega) (by simp)
  · have hg' : goodB S H = false := by simpa using hg
    rw [leastM_no hg']
    go_enter Try.func40, Try.ntmps40
    go_wp2_with fail
    refine (iAreVessels_any _ _ _ _ _ _ _ _ _ (HA.out.new (by repeat (first | with_reducible exact New.refl _ | with_reducible assumption | refine New.drewN ?_ _ | refine New.drew ?_ | refine New.alloc ?_ _ | refine New.setCell ?_ (by first | omega | (simp; omega) | (simp; done)) _ | (refine New.trans ?_ (by assumption))))) (HB.out.new (by repeat (first | with_reducible exact New.refl _ | with_reducible assumption | refine New.drewN ?_ _ | refine New.drew ?_ | refine New.alloc ?_ _ | refine New.setCell ?_ (by first | omega | (simp; omega) | (simp; done)) _ | (refine New.trans ?_ (by assumption)))))).mono ?_
    rintro e w0 ⟨rfl, n0⟩
    have r0 : w0.cell? ⟨w.heap.size + 1, 0, none⟩ = some (.slice none 0 0) := n0.cell (by simp [go_sem])
    have r1 : w0.cell? ⟨w.heap.size + 1, 1, none⟩ = some (.slice none 0 0) := n0.cell (by simp [go_sem])
    have f0 : w0.frozen? ⟨w.heap.size + 1, 0, none⟩ = false := n0.frz (v := .slice none 0 0) (by simp [go_sem]) (by simp [go_sem])
    have f1 : w0.frozen? ⟨w.heap.size + 1, 1, none⟩ = false := n0.frz (v := .slice none 0 0) (by simp [go_sem]) (by simp [go_sem])
    have N0 := Lib.hid (show New w w0 from New.trans (by repeat (first | with_reducible exact New.refl _ | with_reducible assumption | refine New.drewN ?_ _ | refine New.drew ?_ | refine New.alloc ?_ _ | refine New.setCell ?_ (by first | omega | (simp; omega) | (simp; done)) _ | (refine New.trans ?_ (by assumption)))) n0); clear n0
    go_wp2
    have nn := N0.out
    exact bodyPost_ret (v := .tuple #[.agg #[.slice none 0 0, .slice none 0 0], .int .i64 0, .bool false]) (by simp [results, Try.results40, go_sem, r0, r1]) rfl ⟨none, 0, 0, none, 0, 0, rfl, OwnV.nil _ _ _, (by repeat (first | with_reducible exact New.refl _ | with_reducible assumption | refine New.drewN ?_ _ | refine New.drew ?_ | refine New.alloc ?_ _ | refine New.setCell ?_ (by first | omega | (simp; omega) | (simp; done)) _ | (refine New.trans ?_ (by assumption))))⟩
end Go.Proofs.Ytkonhflamnekcaa
