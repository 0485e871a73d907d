/- The model's functions of chapter 1: one move made. -/
import Derived.Test.YtilepckgcgdjgaaSpec4
import Derived.Deep.RegionHeld3
import Derived.Deep.DeepCutAuto
namespace Go.Proofs.Ytilepckgcgdjgaa
open Go.RowKit

set_option maxHeartbeats 4000000 in
theorem veMake_any (w : World) (aa ab : Option Addr) (n m ca cb : Nat) (S H : List Int) (f t : Int) (h1 : Ints w aa n ca S) (h2 : Ints w ab m cb H) (hg : Good S H) (hmv : MoveOk S.length f t) :
    Calls Try.prog 46 #[.agg #[.slice aa n ca, .slice ab m cb], .agg #[.int .i64 f, .int .i64 t]] w fun e w' =>
      ∃ sa sc sb sd, e = .returned (.agg #[.slice sa n sc, .slice sb m sd]) ∧ OwnV w' w.heap.size w'.heap.size sa n sc sb m sd S (poured S H f t) ∧ New w w' := by
  have HA := Lib.hid h1; clear h1
  have HB := Lib.hid h2; clear h2
  have hn := HA.out.len
  have hm := HB.out.len
  have hl := hg.1
  have hl2 := hg.2.1
  have p1 : n ≤ 5 := by omega
  have p2 : m ≤ 5 := by omega
  have HN := Lib.hid (And.intro hn (And.intro hm (And.intro hl hl2)))
  have HG := Lib.hid hg; clear hg
  have HM := Lib.hid hmv; clear hmv
  clear hn hm hl hl2
  go_enter Try.func46, Try.ntmps46
  go_wp2_with fail
  refine (veAmount_any _ _ _ _ _ _ _ _ _ _ _ (HA.out.new (by repeat (first | with_reducible exact New.refl _ | with_reducible assumption | refine New.drewN ?_ _ | refine New.drew ?_ | refine New.alloc ?_ _ | refine New.setCell ?_ (by first | omega | (simp; omega) | (simp; done)) _ | (refine New.trans ?_ (by assumption))))) (HB.out.new (by repeat (first | with_reducible exact New.refl _ | with_reducible assumption | refine New.drewN ?_ _ | refine New.drew ?_ | refine New.alloc ?_ _ | refine New.setCell ?_ (by first | omega | (simp; omega) | (simp; done)) _ | (refine New.trans ?_ (by assumption))))) HG.out HM.out).mono ?_
  rintro e w1 ⟨rfl, n1⟩
  obtain ⟨hc, hf, hz⟩ := bcell n1
  simp at hz
  have ha1 : Ints w1 aa n ca S := HA.out.new (New.trans (by repeat (first | with_reducible exact New.refl _ | with_reducible assumption | refine New.drewN ?_ _ | refine New.drew ?_ | refine New.alloc ?_ _ | refine New.setCell ?_ (by first | omega | (simp; omega) | (simp; done)) _ | (refine New.trans ?_ (by assumption)))) n1)
  have hb1 : Ints w1 ab m cb H := HB.out.new (New.trans (by repeat (first | with_reducible exact New.refl _ | with_reducible assumption | refine New.drewN ?_ _ | refine New.drew ?_ | refine New.alloc ?_ _ | refine New.setCell ?_ (by first | omega | (simp; omega) | (simp; done)) _ | (refine New.trans ?_ (by assumption)))) n1)
  have z0 : w.heap.size < w1.heap.size := by omega
  have z1 : w.heap.size + 1 < w1.heap.size := by omega
  have z2 : w.heap.size + 1 + 1 < w1.heap.size := by omega
  have nw : New w w1 := New.trans (by repeat (first | with_reducible exact New.refl _ | with_reducible assumption | refine New.drewN ?_ _ | refine New.drew ?_ | refine New.alloc ?_ _ | refine New.setCell ?_ (by first | omega | (simp; omega) | (simp; done)) _ | (refine New.trans ?_ (by assumption)))) n1
  have c0 : w1.cell? ⟨w.heap.size, 0, none⟩ = some (.slice aa n ca) := by rw [hc _ _ (by simp; omega)]; simp [go_sem]
  have c1 : w1.cell? ⟨w.heap.size, 1, none⟩ = some (.slice ab m cb) := by rw [hc _ _ (by simp; omega)]; simp [go_sem]
  have m0 : w1.cell? ⟨w.heap.size + 1, 0, none⟩ = some (.int .i64 f) := by rw [hc _ _ (by simp)]; simp [go_sem]
  have m1 : w1.cell? ⟨w.heap.size + 1, 1, none⟩ = some (.int .i64 t) := by rw [hc _ _ (by simp)]; simp [go_sem]
  have r0 : w1.cell? ⟨w.heap.size + 1 + 1, 0, none⟩ = some (.slice none 0 0) := by rw [hc _ _ (by simp)]; simp [go_sem]
  have r1 : w1.cell? ⟨w.heap.size + 1 + 1, 1, none⟩ = some (.slice none 0 0) := by rw [hc _ _ (by simp)]; simp [go_sem]
  have rf0 : w1.frozen? ⟨w.heap.size + 1 + 1, 0, none⟩ = false := by rw [hf _ _ (by simp)]; simp [go_sem]
  have rf1 : w1.frozen? ⟨w.heap.size + 1 + 1, 1, none⟩ = false := by rw [hf _ _ (by simp)]; simp [go_sem]
  have R0 := Lib.hid (And.intro m0 (And.intro m1 (And.intro r0 (And.intro r1 (And.intro rf0 rf1))))); clear m0 m1 r0 r1 rf0 rf1
  have HA1 := Lib.hid ha1; clear ha1
  have HB1 := Lib.hid hb1; clear hb1
  have N1 := Lib.hid nw; clear n1 nw
  go_upto_region 2 with fail
  go_cut [6] (fun p W => ∃ B sa sc sb sd, p = .pointer (some ⟨B, 0, none⟩) ∧ BoxV w1 W B sa n sc sb m sd S H)
  case first =>
    go_region_held3 (fun w' => w'.cell? ⟨w.heap.size, 0, none⟩ = some (.slice aa n ca) ∧ w'.cell? ⟨w.heap.size, 1, none⟩ = some (.slice ab m cb)) (first | exact ⟨c0, c1⟩ | exact ⟨World.cell_kept c0, World.cell_kept c1⟩ | exact ⟨d0, d1⟩ | exact ⟨World.cell_kept d0, World.cell_kept d1⟩ | exact ⟨e0, e1⟩ | exact ⟨World.cell_kept e0, World.cell_kept e1⟩ | exact ⟨World.cell_set (World.cell_kept e0) (by simp; omega), World.cell_set (World.cell_kept e1) (by simp; omega)⟩ | exact ⟨World.cell_set e0 (by simp; omega), World.cell_set e1 (by simp; omega)⟩ | exact ⟨World.cell_set (World.cell_set e0 (by simp; omega)) (by simp; omega), World.cell_set (World.cell_set e1 (by simp; omega)) (by simp; omega)⟩ | fail)
      (first
        | (go_at_call_of 40 (Value.slice aa n ca); refine (l1Own_any _ _ _ _ S ?_ ?_).mono ?_; exact HA1.out.new (by repeat (first | with_reducible exact New.refl _ | with_reducible assumption | refine New.drewN ?_ _ | refine New.drew ?_ | refine New.alloc ?_ _ | refine New.setCell ?_ (by first | omega | (simp; omega) | (simp; done)) _ | (refine New.trans ?_ (by assumption)))); omega; rintro e w2 ⟨sa, sc, rfl, o2, n2⟩; (try replace n2 := New.undrew n2); have d0 : w2.cell? ⟨w.heap.size, 0, none⟩ = some (.slice aa n ca) := n2.cell (by first | exact c0 | exact World.cell_kept c0); have d1 : w2.cell? ⟨w.heap.size, 1, none⟩ = some (.slice ab m cb) := n2.cell (by first | exact c1 | exact World.cell_kept c1); have z3 := n2.size; (try simp at z3); (try (have kk := New.box n2; obtain ⟨k0, k1, k2, k3, k4⟩ := kk)))
        | (go_at_call_of 40 (Value.slice ab m cb); refine (l1Own_any _ _ _ _ H ?_ ?_).mono ?_; exact HB1.out.new (by repeat (first | with_reducible exact New.refl _ | with_reducible assumption | refine New.drewN ?_ _ | refine New.drew ?_ | refine New.alloc ?_ _ | refine New.setCell ?_ (by first | omega | (simp; omega) | (simp; done)) _ | (refine New.trans ?_ (by assumption)))); omega; rintro e w3 ⟨sb, sd, rfl, o3, n3⟩; (try replace n3 := New.undrew n3); have e0 : w3.cell? ⟨w.heap.size, 0, none⟩ = some (.slice aa n ca) := n3.cell (by first | exact d0 | exact World.cell_kept d0); have e1 : w3.cell? ⟨w.heap.size, 1, none⟩ = some (.slice ab m cb) := n3.cell (by first | exact d1 | exact World.cell_kept d1); have z4 := n3.size; (try simp at z4); (try (have kk := New.box n3; obtain ⟨j0, j1, j2, j3, j4⟩ := kk)); (try (have kk := New.boxed n3 k0 k1 k2 k3; obtain ⟨j0, j1, j2, j3⟩ := kk))))
    all_goals (go_wp2_with fail; go_meet)
    all_goals
      have n23 : New w2 w3 := by first | exact n3 | exact ((New.refl _).alloc _).trans n3
      have n12 : New w1 w2 := by first | exact n2 | exact ((New.refl _).alloc _).trans n2
      simp only [World.size_alloc, World.size_drew] at o2 o3
      have z5 := n12.size
      have z6 := n23.size
      have z7 := n2.size
      have z8 := n3.size
      (try simp only [World.size_alloc] at z7 z8)
      have ov : OwnV w3 w1.heap.size w3.heap.size sa n sc sb m sd S H := OwnV.two o2 o3 n23 (by omega) (by omega) (by omega) (by omega)
      refine ⟨_, sa, sc, sb, sd, rfl, ?_⟩
      first
        | exact BoxV.behind (n12.trans n23) ov
        | exact BoxV.put (n12.trans n23) (by omega) (by omega) j0 j1 ov (fun h e => by have := o2.bounds h e; omega) (fun h e => by have := o3.bounds h e; omega)
  case rest =>
    obtain ⟨B, sa, sc, sb, sd, rfl, hb⟩ := hcut
    have HBX := Lib.hid hb; clear hb
    obtain ⟨m0, m1, r0, r1, rf0, rf1⟩ := R0.out
    obtain ⟨hm0, hm1, hm2, hm3⟩ := New.boxed HBX.out.new r0 r1 rf0 rf1
    have g0 := HBX.out.new.cell m0
    have g1 := HBX.out.new.cell m1
    have b0 := HBX.out.c0
    have b1 := HBX.out.c1
    have blo := HBX.out.lo
    clear hc hf hz m0 m1 r0 r1 rf0 rf1 c0 c1
    obtain ⟨hn, hm, hl, hl2⟩ := HN.out
    obtain ⟨a0, a1⟩ := amt_bd HG.out HM.out
    rcases HM.out.parts with ⟨rfl, j, rfl, hj⟩ | ⟨rfl, i, rfl, hi⟩ | ⟨i, j, rfl, rfl, hi, hj, hij⟩
    · have q2 : j < m := by omega
      obtain ⟨v0, v1, v2, v3⟩ := HG.out.at hj
      obtain ⟨br, rfl, s1, s2, s3, s4⟩ := HBX.out.own.2.1.row q2
      obtain ⟨s5, s6⟩ := s4 j q2
      have hBr : B ≠ br := fun e => HBX.out.apb (by omega) (by simp [blkOf, e])
      have HE := Lib.hid (poured_in S H j)
      clear hn hm hl hl2 hj s4
      go_wp2
      have nn := N1.out.trans HBX.out.new
      refine bodyPost_ret (v := .agg #[.slice sa n sc, .slice (some ⟨br, 0, none⟩) m sd]) (by simp [results, Try.results46, go_sem, hm0, hm1]) rfl ⟨sa, sc, _, sd, rfl, ?_, (by repeat (first | with_reducible exact New.refl _ | with_reducible assumption | refine New.drewN ?_ _ | refine New.drew ?_ | refine New.alloc ?_ _ | refine New.setCell ?_ (by first | omega | (simp; omega) | (simp; done)) _ | (refine New.trans ?_ (by assumption))))⟩
      rw [HE.out]
      exact (((HBX.out.own.heldStore q2 _).setCell (.inl (by simp; omega)) _).setCell (.inl (by simp; omega)) _).mono (by omega) (by simp)
    · have q2 : i < m := by omega
      obtain ⟨v0, v1, v2, v3⟩ := HG.out.at hi
      obtain ⟨br, rfl, s1, s2, s3, s4⟩ := HBX.out.own.2.1.row q2
      obtain ⟨s5, s6⟩ := s4 i q2
      have hBr : B ≠ br := fun e => HBX.out.apb (by omega) (by simp [blkOf, e])
      have HE := Lib.hid (poured_out S H i)
      clear hn hm hl hl2 hi s4
      go_wp2
      have nn := N1.out.trans HBX.out.new
      refine bodyPost_ret (v := .agg #[.slice sa n sc, .slice (some ⟨br, 0, none⟩) m sd]) (by simp [results, Try.results46, go_sem, hm0, hm1]) rfl ⟨sa, sc, _, sd, rfl, ?_, (by repeat (first | with_reducible exact New.refl _ | with_reducible assumption | refine New.drewN ?_ _ | refine New.drew ?_ | refine New.alloc ?_ _ | refine New.setCell ?_ (by first | omega | (simp; omega) | (simp; done)) _ | (refine New.trans ?_ (by assumption))))⟩
      rw [HE.out]
      exact (((HBX.out.own.heldStore q2 _).setCell (.inl (by simp; omega)) _).setCell (.inl (by simp; omega)) _).mono (by omega) (by simp)
    · have q1 : i < m := by omega
      have q2 : j < m := by omega
      obtain ⟨v0, v1, v2, v3⟩ := HG.out.at hj
      obtain ⟨u0, u1, u2, u3⟩ := HG.out.at hi
      obtain ⟨br, rfl, s1, s2, s3, s4⟩ := HBX.out.own.2.1.row q2
      obtain ⟨s5, s6⟩ := s4 j q2
      obtain ⟨s7, s8⟩ := s4 i q1
      have hBr : B ≠ br := fun e => HBX.out.apb (by omega) (by simp [blkOf, e])
      have HE := Lib.hid (poured_mid S H i j hij)
      clear hn hm hl hl2 hj hi s4
      go_wp2
      have nn := N1.out.trans HBX.out.new
      refine bodyPost_ret (v := .agg #[.slice sa n sc, .slice (some ⟨br, 0, none⟩) m sd]) (by simp [results, Try.results46, go_sem, hm0, hm1]) rfl ⟨sa, sc, _, sd, rfl, ?_, (by repeat (first | with_reducible exact New.refl _ | with_reducible assumption | refine New.drewN ?_ _ | refine New.drew ?_ | refine New.alloc ?_ _ | refine New.setCell ?_ (by first | omega | (simp; omega) | (simp; done)) _ | (refine New.trans ?_ (by assumption))))⟩
      rw [HE.out]
      exact ((((HBX.out.own.heldStore q1 _).heldStore q2 _).setCell (.inl (by simp; omega)) _).setCell (.inl (by simp; omega)) _).mono (by omega) (by simp)
end Go.Proofs.Ytilepckgcgdjgaa
