/- Where vessels are among those that are found: the model's search by halves. -/
import Derived.Test.YtilepckgcgdjgaaReach
namespace Go.Proofs.Ytilepckgcgdjgaa
open Go.RowKit

set_option maxRecDepth 100000 in
set_option maxHeartbeats 4000000 in
theorem plPlace_any (w : World) (R : Nat) (S S0 : List Int) (L : List Node) (O : List Nat) (aa ab : Option Addr) (n m ca cb : Nat) (H : List Int) (hr : ReachR w R S L O) (h1 : Ints w ab m cb H) (hl : H.length = S.length) (hf : Found S S0 L) (hs : Sorted L O) (hbig : L.length ≤ 4000) :
    Calls Try.prog 45 #[.pointer (some ⟨R, 0, none⟩), .agg #[.slice aa n ca, .slice ab m cb]] w fun e w' => ∃ a : Nat, e = .returned (.tuple #[.int .i64 (a : Int), .bool (nHas L H)]) ∧ PlaceOf L O H a ∧ New w w' := by
  have HR := Lib.hid hr; clear hr
  have HA := Lib.hid h1; clear h1
  have HL := Lib.hid hl; clear hl
  have HF := Lib.hid hf; clear hf
  have HS := Lib.hid hs; clear hs
  obtain ⟨N, hN⟩ : ∃ N, N = L.length := ⟨_, rfl⟩
  have HN := Lib.hid hN
  have hbig2 : N ≤ 4000 := by omega
  clear hbig
  obtain ⟨ga, ca', go, co, c0, c4, el, ol⟩ := HR.out
  rw [← hN] at c0 c4
  clear hN
  have EL := Lib.hid el; clear el
  have OL := Lib.hid ol; clear ol
  go_enter Try.func45, Try.ntmps45
  go_wp2
  obtain ⟨v0, hv0⟩ : ∃ v, v = w.alloc (.cells #[.slice aa n ca, .slice ab m cb] 28) := ⟨_, rfl⟩
  rw [← hv0]
  have nv : New w v0 := by rw [hv0]; exact (by repeat (first | with_reducible exact New.refl _ | with_reducible assumption | refine New.drewN ?_ _ | refine New.drew ?_ | refine New.alloc ?_ _ | refine New.setCell ?_ (by first | omega | (simp; omega) | (simp; done)) _ | (refine New.trans ?_ (by assumption))))
  have b0 : v0.cell? ⟨w.heap.size, 0, none⟩ = some (.slice aa n ca) := by rw [hv0]; simp [go_sem]
  have b1 : v0.cell? ⟨w.heap.size, 1, none⟩ = some (.slice ab m cb) := by rw [hv0]; simp [go_sem]
  replace c0 := nv.cell c0
  replace c4 := nv.cell c4
  have NV := Lib.hid nv; clear nv hv0
  go_quiet (fail)
  go_wp2
  have B0 := Lib.hid (And.intro b0 (And.intro b1 (And.intro c0 c4)))
  clear b0 b1 c0 c4
  go_loopw [6, 7] (fun lo hi wr => ∃ i j : Nat, i ≤ j ∧ j ≤ N ∧ lo = .int .i64 i ∧ hi = .int .i64 j ∧ New v0 wr ∧ (∀ q, q < i → lexB (heldAt L O q) H = true) ∧ (∀ q, j ≤ q → q < O.length → lexB (heldAt L O q) H = false)) (fun lo hi _ => (intOf hi - intOf lo).toNat)
  case atStart => exact ⟨0, N, Nat.zero_le _, Nat.le_refl _, rfl, rfl, (by repeat (first | with_reducible exact New.refl _ | with_reducible assumption | refine New.drewN ?_ _ | refine New.drew ?_ | refine New.alloc ?_ _ | refine New.setCell ?_ (by first | omega | (simp; omega) | (simp; done)) _ | (refine New.trans ?_ (by assumption)))), fun q hq => absurd hq (by omega), fun q h1 h2 => absurd h2 (by have := HN.out; have := HS.out.len; omega)⟩
  case round =>
    obtain ⟨i, j, hij, hjN, rfl, rfl, hnw, hlo, hhi⟩ := hrel
    have NW := Lib.hid hnw; clear hnw
    have LO := Lib.hid hlo; clear hlo
    have HI := Lib.hid hhi; clear hhi
    have b0 := NW.out.cell B0.out.1
    have b1 := NW.out.cell B0.out.2.1
    have c0 := NW.out.cell B0.out.2.2.1
    have c4 := NW.out.cell B0.out.2.2.2
    by_cases hlt : i < j
    · obtain ⟨q, hq⟩ : ∃ q : Nat, q = (i + j) / 2 := ⟨_, rfl⟩
      have hq1 : i ≤ q ∧ q < j := by omega
      have hqe : ((i : Int) + (j : Int)) / 2 = (q : Int) := by omega
      have w1 : IntKind.i64.wrap ((i : Int) + (j : Int)) = (i : Int) + (j : Int) := IntWalk.i64_in _ (by omega)
      have w2 : IntKind.i64.wrap (((i : Int) + (j : Int)) / 2) = (q : Int) := by rw [hqe]; exact IntWalk.i64_in _ (by omega)
      clear hq
      obtain ⟨x, hx⟩ : ∃ x, x = O[q]?.getD 0 := ⟨_, rfl⟩
      have hxl : x < N := by rw [hx, HN.out]; exact HS.out.bnd q (by have := HS.out.len; have := HN.out; omega)
      have o1 := (NV.out.trans NW.out).cell (OL.out q (by have := HN.out; omega))
      rw [← hx] at o1
      obtain ⟨sa, n1, sc, sb, m1, sd, e1, e2, i1, i2⟩ := EL.out x (by have := HN.out; omega)
      replace e1 := (NV.out.trans NW.out).cell e1
      replace e2 := (NV.out.trans NW.out).cell e2
      have I2 := Lib.hid (i2.new (NV.out.trans NW.out)); clear i1 i2
      have HX := Lib.hid hx; clear hx
      have HLX := Lib.hid (show (L[x]?.getD dN).h.length = H.length by rw [HL.out]; exact (HF.out.good x (by have := HN.out; omega)).2.1)
      have zb := (NV.out.trans NW.out).size
      have qi : (q : Int) < (N : Int) := by omega
      have q0 : (0 : Int) ≤ (q : Int) := by omega
      have xi : (x : Int) < (N : Int) := by omega
      have x0 : (0 : Int) ≤ (x : Int) := by omega
      go_upto_region 4 with fail
      go_region_held3 (fun w' => w'.cell? ⟨R, 0, none⟩ = some (.slice (some ⟨ga, 0, none⟩) N ca') ∧ w'.cell? ⟨R, 4, none⟩ = some (.slice (some ⟨go, 0, none⟩) N co) ∧ w'.cell? ⟨go, q, none⟩ = some (.int .i64 (x : Int)) ∧ w'.cell? ⟨ga, x * 2, none⟩ = some (.slice sa n1 sc) ∧ w'.cell? ⟨ga, x * 2 + 1, none⟩ = some (.slice sb m1 sd) ∧ w'.cell? ⟨w.heap.size, 0, none⟩ = some (.slice aa n ca) ∧ w'.cell? ⟨w.heap.size, 1, none⟩ = some (.slice ab m cb))
        (first | exact ⟨c0, c4, o1, e1, e2, b0, b1⟩ | exact ⟨d0, d4, p1, f1, f2, g0, g1⟩ | fail)
        (first
          | (go_at_call 63; refine (plLess_any _ _ _ _ _ _ _ _ _ _ _ _ _ (L[x]?.getD dN).h H (I2.out.new (by repeat (first | with_reducible exact New.refl _ | with_reducible assumption | refine New.drewN ?_ _ | refine New.drew ?_ | refine New.alloc ?_ _ | refine New.setCell ?_ (by first | omega | (simp; omega) | (simp; done)) _ | (refine New.trans ?_ (by assumption))))) (HA.out.new (New.trans (NV.out.trans NW.out) (by repeat (first | with_reducible exact New.refl _ | with_reducible assumption | refine New.drewN ?_ _ | refine New.drew ?_ | refine New.alloc ?_ _ | refine New.setCell ?_ (by first | omega | (simp; omega) | (simp; done)) _ | (refine New.trans ?_ (by assumption)))))) HLX.out).mono ?_; rintro e w3 ⟨rfl, n3⟩; (try replace n3 := New.undrew n3); have d0 := n3.cell c0; have d4 := n3.cell c4; have p1 := n3.cell o1; have f1 := n3.cell e1; have f2 := n3.cell e2; have g0 := n3.cell b0; have g1 := n3.cell b1))
      have K3 := Lib.hid (show New v0 w3 from NW.out.trans n3)
      have ht : heldAt L O q = (L[x]?.getD dN).h := by unfold heldAt; rw [← HX.out]
      have hqO : q < O.length := by have := HS.out.len; have := HN.out; omega
      clear n3 c0 c4 o1 e1 e2 b0 b1 d0 d4 p1 f1 f2 g0 g1 xi x0 qi q0
      obtain ⟨t, hb⟩ : ∃ t, t = lexB (L[x]?.getD dN).h H := ⟨_, rfl⟩
      rw [← hb]
      cases t
      case true =>
        have HB := Lib.hid (show lexB (heldAt L O q) H = true by rw [ht]; exact hb.symm)
        clear ht hb
        go_wp2
        go_roundw
        case rel =>
          refine ⟨q + 1, j, by omega, hjN, by go_num, rfl, K3.out, fun p hp => ?_, HI.out⟩
          by_cases e : p = q
          · subst e; exact HB.out
          · exact lexB_trans (HS.out.lt p q (by omega) hqO) HB.out
        case measure => simp [intOf]; omega
      case false =>
        have HB := Lib.hid (show lexB (heldAt L O q) H = false by rw [ht]; exact hb.symm)
        clear ht hb
        go_wp2
        go_roundw
        case rel =>
          refine ⟨i, q, by omega, by omega, rfl, rfl, K3.out, LO.out, fun p hp hp2 => ?_⟩
          by_cases e : p = q
          · subst e; exact HB.out
          · by_cases h2 : lexB (heldAt L O p) H = true
            · have := lexB_trans (HS.out.lt q p (by omega) hp2) h2
              have h3 : lexB (heldAt L O q) H = true := this
              rw [HB.out] at h3
              exact absurd h3 (by decide)
            · simpa using h2
        case measure => simp [intOf]; omega
    · obtain rfl : i = j := by omega
      have PL := Lib.hid (show PlaceOf L O H i from ⟨by have := HS.out.len; have := HN.out; omega, LO.out, HI.out⟩)
      have FD := Lib.hid (PL.out.found HS.out)
      by_cases hi : i < N
      · obtain ⟨x, hx⟩ : ∃ x, x = O[i]?.getD 0 := ⟨_, rfl⟩
        have hxl : x < N := by rw [hx, HN.out]; exact HS.out.bnd i (by have := HS.out.len; have := HN.out; omega)
        have o1 := (NV.out.trans NW.out).cell (OL.out i (by have := HN.out; omega))
        rw [← hx] at o1
        obtain ⟨sa, n1, sc, sb, m1, sd, e1, e2, i1, i2⟩ := EL.out x (by have := HN.out; omega)
        replace e1 := (NV.out.trans NW.out).cell e1
        replace e2 := (NV.out.trans NW.out).cell e2
        have I2 := Lib.hid (i2.new (NV.out.trans NW.out)); clear i1 i2
        have HLX := Lib.hid (show (L[x]?.getD dN).h.length = H.length by rw [HL.out]; exact (HF.out.good x (by have := HN.out; omega)).2.1)
        have hfd : nHas L H = decide ((L[x]?.getD dN).h = H) := by
          rw [FD.out]
          have ht : heldAt L O i = (L[x]?.getD dN).h := by unfold heldAt; rw [← hx]
          rw [ht]
          have hiO : i < O.length := by have := HS.out.len; have := HN.out; omega
          simp [hiO]
        have FE := Lib.hid hfd; clear hfd hx
        have zb := (NV.out.trans NW.out).size
        have qi : (i : Int) < (N : Int) := by omega
        have q0 : (0 : Int) ≤ (i : Int) := by omega
        have xi : (x : Int) < (N : Int) := by omega
        have x0 : (0 : Int) ≤ (x : Int) := by omega
        have gd : decide ((i : Int) < (N : Int)) = true := decide_eq_true qi
        go_upto_region 7 with fail
        go_region_held3 (fun w' => w'.cell? ⟨R, 0, none⟩ = some (.slice (some ⟨ga, 0, none⟩) N ca') ∧ w'.cell? ⟨R, 4, none⟩ = some (.slice (some ⟨go, 0, none⟩) N co) ∧ w'.cell? ⟨go, i, none⟩ = some (.int .i64 (x : Int)) ∧ w'.cell? ⟨ga, x * 2, none⟩ = some (.slice sa n1 sc) ∧ w'.cell? ⟨ga, x * 2 + 1, none⟩ = some (.slice sb m1 sd) ∧ w'.cell? ⟨w.heap.size, 0, none⟩ = some (.slice aa n ca) ∧ w'.cell? ⟨w.heap.size, 1, none⟩ = some (.slice ab m cb))
          (first | exact ⟨c0, c4, o1, e1, e2, b0, b1⟩ | exact ⟨d0, d4, p1, f1, f2, g0, g1⟩ | fail)
          (first
            | (go_at_call 64; refine (veSame_same _ _ _ _ _ _ _ _ _ _ _ _ _ (L[x]?.getD dN).h H (I2.out.new (by repeat (first | with_reducible exact New.refl _ | with_reducible assumption | refine New.drewN ?_ _ | refine New.drew ?_ | refine New.alloc ?_ _ | refine New.setCell ?_ (by first | omega | (simp; omega) | (simp; done)) _ | (refine New.trans ?_ (by assumption))))) (HA.out.new (New.trans (NV.out.trans NW.out) (by repeat (first | with_reducible exact New.refl _ | with_reducible assumption | refine New.drewN ?_ _ | refine New.drew ?_ | refine New.alloc ?_ _ | refine New.setCell ?_ (by first | omega | (simp; omega) | (simp; done)) _ | (refine New.trans ?_ (by assumption)))))) HLX.out).mono ?_; rintro e w3 ⟨rfl, n3⟩; (try replace n3 := New.undrew n3); have d0 := n3.cell c0; have d4 := n3.cell c4; have p1 := n3.cell o1; have f1 := n3.cell e1; have f2 := n3.cell e2; have g0 := n3.cell b0; have g1 := n3.cell b1))
        have K3 := Lib.hid (show New v0 w3 from NW.out.trans n3)
        clear n3 c0 c4 o1 e1 e2 b0 b1 d0 d4 p1 f1 f2 g0 g1 xi x0 qi q0 gd
        go_wp2
        go_ret2
        exact ⟨i, by rw [FE.out]; rfl, PL.out, New.trans NV.out K3.out⟩
      · have hif : decide ((i : Int) < (N : Int)) = false := decide_eq_false (by omega)
        have hfd : nHas L H = false := by
          rw [FD.out]
          exact decide_eq_false fun h => by have := h.1; have := HS.out.len; have := HN.out; omega
        have FE := Lib.hid hfd; clear hfd
        have zb := (NV.out.trans NW.out).size
        go_wp2
        go_quiet (fail)
        go_wp2
        go_ret2
        exact ⟨i, by rw [FE.out]; rfl, PL.out, New.trans NV.out (by repeat (first | with_reducible exact New.refl _ | with_reducible assumption | refine New.drewN ?_ _ | refine New.drew ?_ | refine New.alloc ?_ _ | refine New.setCell ?_ (by first | omega | (simp; omega) | (simp; done)) _ | (refine New.trans ?_ (by assumption))))⟩
end Go.Proofs.Ytilepckgcgdjgaa
