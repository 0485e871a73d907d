/- The plan behind which an amount is measured: the program's. -/
import Derived.Test.YtjailklnagfglaaAmtI
import Derived.Deep.QuietTactic
import Derived.BigQuiet
namespace Go.Proofs.Ytjailklnagfglaa
open Go.RowKit Go.Maps

theorem heldAt_any (w : World) (B gp T cp k n ca : Nat) (aa : Option Addr) (c0 : w.cell? ⟨B, 0, none⟩ = some (.slice aa n ca)) (c1 : w.cell? ⟨B, 1, none⟩ = some (.slice (some ⟨gp, 0, none⟩) T cp)) (hk : k < T) (hn : n ≤ 5) :
    Calls Try.prog 62 #[.pointer (some ⟨B, 0, none⟩), .int .i64 k] w fun e w' => e = .returned (.slice (some ⟨gp, k * 7, none⟩) n 5) ∧ New w w' := by
  have kI : (k : Int) < (T : Int) := by omega
  have nI : (n : Int) ≤ 5 := by omega
  have zB : B < w.heap.size := World.block_lt_of_cell? _ _ c0
  go_enter Try.func62, Try.ntmps62
  go_wp2
  go_quiet (fail)
  go_wp2
  go_ret
  exact ⟨rfl, (New.refl _).drewN _⟩
theorem ints_at {w : World} {g o n : Nat} {A : List Int} {p s : Value} (hr : w.rangeAt g o (place7 A p s)) (hn : n = A.length) (h5 : n ≤ 5) : Ints w (some ⟨g, o, none⟩) n 5 A := by
  refine ⟨hn, h5, by omega, fun j hj => ⟨g, o, rfl, ?_⟩, fun e => by cases e⟩
  refine hr j _ ?_
  match j, (show j < 5 by omega) with
  | 0, _ => rfl
  | 1, _ => rfl
  | 2, _ => rfl
  | 3, _ => rfl
  | 4, _ => rfl
theorem measures_any (w : World) (B gp T cp k n ca : Nat) (aa : Option Addr) (A : List Int) (p s : Value) (x : Int) (c0 : w.cell? ⟨B, 0, none⟩ = some (.slice aa n ca)) (c1 : w.cell? ⟨B, 1, none⟩ = some (.slice (some ⟨gp, 0, none⟩) T cp)) (hr : w.rangeAt gp (k * 7) (place7 A p s)) (hk : k < T) (hn : n ≤ 5) (hA : n = A.length) :
    Calls Try.prog 48 #[.pointer (some ⟨B, 0, none⟩), .int .i64 k, .int .i64 x] w fun e w' => e = .returned (.bool (decide (x ∈ A))) ∧ New w w' := by
  have IA := Lib.hid (ints_at hr hA hn); clear hr hA
  have C0 := Lib.hid c0; clear c0
  have C1 := Lib.hid c1; clear c1
  go_enter Try.func48, Try.ntmps48
  go_wp2_with fail
  refine (heldAt_any _ B gp T cp k n ca aa C0.out C1.out hk hn).mono ?_
  rintro e w1 ⟨rfl, n1⟩
  have N1 := Lib.hid n1; clear n1
  go_wp2_with fail
  refine (contains_any _ _ _ _ A x (IA.out.new N1.out) (by omega)).mono ?_
  rintro e w2 ⟨rfl, n2⟩
  have N2 := Lib.hid n2; clear n2
  go_wp2
  go_ret
  exact ⟨rfl, N1.out.trans N2.out⟩

theorem place_at {w : World} {base : Nat} {L : List Node} {vp : Value} {P St : Nat → Value} (h : w.ownsRow base 71 7 vp L.length (flat7 (hA L) P St L.length)) {k : Nat} (hk : k < L.length) :
    ∃ g cap, vp = .slice (some ⟨g, 0, none⟩) L.length cap ∧ ∀ j, j < L.length → w.rangeAt g (j * 7) (place7 (L[j]?.getD dN).h (P j) (St j)) := by
  obtain ⟨g, cap, e, _, _, _, hr⟩ := own_read h (show 0 < L.length by omega)
  refine ⟨g, cap, e, fun j hj q v hv => ?_⟩
  have hq : q < 7 := by
    have := (List.getElem?_eq_some_iff.1 hv).1
    rw [place7_length] at this
    exact this
  refine (hr (j * 7 + q) v (by omega) ?_).1
  rw [flat7_get _ _ _ hj q hq]
  exact hv
theorem range_new {w w' : World} {g o : Nat} {cs : List Value} (h : w.rangeAt g o cs) (k : New w w') : w'.rangeAt g o cs := fun j v hv => k.cell (h j v hv)

set_option maxRecDepth 100000 in
set_option maxHeartbeats 4000000 in
theorem iPlanToAmount_any (w : World) (aa ab : Option Addr) (n m ca cb : Nat) (S H : List Int) (x : Int) (cl : Bool) (h1 : Ints w aa n ca S) (h2 : Ints w ab m cb H) :
    Calls Try.prog 24 #[.agg #[.slice aa n ca, .slice ab m cb], .int .i64 x, .bool cl] w (RetP w (ptaM S H x cl).1 (ptaM S H x cl).2) := by
  obtain ⟨kf, KF⟩ := keyH_ex
  have LA := Lib.hid h1.len
  have HA := Lib.hid h1; clear h1
  have HB := Lib.hid h2; clear h2
  obtain ⟨z, hz⟩ : ∃ z, z = ptaM S H x cl := ⟨_, rfl⟩
  rw [← hz]
  have HZ := Lib.hid hz; clear hz
  cases hx : inB 0 60 x
  case false =>
    have ZE := Lib.hid (show z = ([], false) from by rw [HZ.out, ptaM_no (by unfold amtB'; rw [hx, Bool.and_false])])
    have HX := Lib.hid hx; clear hx
    go_enter Try.func24, Try.ntmps24
    go_wp2_with fail
    refine (isAmount_any _ x).mono ?_
    rintro e w2 ⟨rfl, rfl⟩
    rw [HX.out]
    go_wp2
    go_ret2
    rw [ZE.out]
    exact ⟨none, 0, 0, rfl, OwnP.nil _ _ _, (by repeat (first | with_reducible exact New.refl _ | with_reducible assumption | refine New.drewN ?_ _ | refine New.drew ?_ | refine New.alloc ?_ _ | refine New.setCell ?_ (by first | omega | (simp; omega) | (simp; done)) _ | (refine New.trans ?_ (by assumption))))⟩
  case true =>
    have HX := Lib.hid hx; clear hx
    go_enter Try.func24, Try.ntmps24
    go_wp2_with fail
    refine (isAmount_any _ x).mono ?_
    rintro e w2 ⟨rfl, rfl⟩
    rw [HX.out]
    go_wp2_with fail
    refine (reachedFrom_any kf KF _ _ _ _ _ _ _ S H cl 3000 (HA.out.new (by repeat (first | with_reducible exact New.refl _ | with_reducible assumption | refine New.drewN ?_ _ | refine New.drew ?_ | refine New.alloc ?_ _ | refine New.setCell ?_ (by first | omega | (simp; omega) | (simp; done)) _ | (refine New.trans ?_ (by assumption))))) (HB.out.new (by repeat (first | with_reducible exact New.refl _ | with_reducible assumption | refine New.drewN ?_ _ | refine New.drew ?_ | refine New.alloc ?_ _ | refine New.setCell ?_ (by first | omega | (simp; omega) | (simp; done)) _ | (refine New.trans ?_ (by assumption))))) (by omega) (by omega)).mono ?_
    intro e w1 hp
    obtain ⟨n1, h⟩ := hp.parts
    clear hp
    have N1 := Lib.hid (show New w w1 from New.trans (by repeat (first | with_reducible exact New.refl _ | with_reducible assumption | refine New.drewN ?_ _ | refine New.drew ?_ | refine New.alloc ?_ _ | refine New.setCell ?_ (by first | omega | (simp; omega) | (simp; done)) _ | (refine New.trans ?_ (by assumption)))) n1)
    have Z0 := Lib.hid n1.size; clear n1
    rcases h with ⟨hc, E, hE, base, mb, vp, vl, P, St, rfl, fv⟩ | ⟨hc, rfl⟩
    · obtain ⟨hG, hl⟩ := countB_good hc
      have hfd := endN_found cl 3000 hG
      rw [← hE] at hl hfd
      have FD := Lib.hid hfd
      have ZE := Lib.hid (show z = ptaL E x from by rw [HZ.out, ptaM_yes (by unfold amtB'; rw [HX.out, Bool.and_true]; exact hc), hE])
      have n5 : n ≤ 5 := by have := hG.1; have := LA.out; omega
      have GA := Lib.hid (show ∀ k, k < E.length → n = (E[k]?.getD dN).h.length from fun k hk => by rw [LA.out]; exact (FD.out.good k hk).2.1.symm)
      have hpos := hfd.pos
      clear hE hc hG
      obtain ⟨gp, cp, hv, hra⟩ := place_at fv.places hpos
      subst hv
      obtain ⟨al, capl, hvl⟩ := own_slice fv.layers
      subst hvl
      have RA := Lib.hid hra
      have PL := Lib.hid fv.plans
      have STP := Lib.hid fv.steps
      have LO := Lib.hid fv.lo
      obtain ⟨T, hT⟩ : ∃ T, T = E.length := ⟨_, rfl⟩
      rw [← hT] at hl
      rw [← hT]
      have HT := Lib.hid hT
      clear hra fv hfd hpos hT
      go_upto_region 4 with fail
      obtain ⟨v1, hv1⟩ : ∃ v, v = w1.alloc (.cells #[.slice aa n ca, .slice (some ⟨gp, 0, none⟩) T cp, .slice al (layN E).length capl, .map (some mb)] 60) := ⟨_, rfl⟩
      rw [← hv1]
      have nv1 : New w1 v1 := by rw [hv1]; exact (New.refl _).alloc _
      have c0 : v1.cell? ⟨w1.heap.size, 0, none⟩ = some (.slice aa n ca) := by rw [hv1]; simp [go_sem]
      have c1 : v1.cell? ⟨w1.heap.size, 1, none⟩ = some (.slice (some ⟨gp, 0, none⟩) T cp) := by rw [hv1]; simp [go_sem]
      have C0 := Lib.hid c0
      have C1 := Lib.hid c1
      have NV1 := Lib.hid nv1
      clear hv1 nv1 c0
      go_wp2
      go_loopw [26] (fun i wr => ∃ k : Nat, i = .int .i64 k ∧ k ≤ T ∧ New v1 wr ∧ ∀ j, j < k → amtK E x j = false) (fun i _ => T - (intOf i).toNat)
      case atStart => exact ⟨0, rfl, Nat.zero_le _, New.refl _, fun j hj => absurd hj (by omega)⟩
      case round =>
        obtain ⟨k, rfl, hk, hnw, hno⟩ := hrel
        have NW := Lib.hid hnw; clear hnw
        have NO := Lib.hid hno; clear hno
        clear c1
        by_cases hlt : k < T
        · have KE := Lib.hid (show k < E.length from by have := HT.out; omega)
          obtain ⟨po, pc, hpo⟩ := own_slice (PL.out k KE.out)
          obtain ⟨q1, q2, q3, hsv⟩ := STP.out k KE.out
          obtain ⟨A, hA'⟩ : ∃ A, A = (E[k]?.getD dN).h := ⟨_, rfl⟩
          have hr := range_new (RA.out k KE.out) (NV1.out.trans NW.out)
          rw [hpo, ← hA', hsv] at hr
          obtain ⟨pn, hpn⟩ : ∃ pn, pn = (wayN E k).length := ⟨_, rfl⟩
          rw [← hpn] at hr
          have PN := Lib.hid hpn
          have PO := Lib.hid hpo
          have AA := Lib.hid hA'
          have HR := Lib.hid hr
          have kI : (k : Int) < (T : Int) := by omega
          clear hpn hpo hsv hA' hr
          go_upto_region 9 with (first
            | (refine wpList_load_mid rfl 71 _ rfl gp (k * 7) (by first | rfl | simp [Act.eval, Act.put]) [.int .i64 (A[0]?.getD 0), .int .i64 (A[1]?.getD 0), .int .i64 (A[2]?.getD 0), .int .i64 (A[3]?.getD 0), .int .i64 (A[4]?.getD 0), .slice po pn pc, .slice q1 q2 q3] _ HR.out Try.underlying71 rfl (by kernel_rfl) ?_))
          obtain ⟨v2, hv2⟩ : ∃ v, v = wr.alloc (.cells #[.int .i64 (A[0]?.getD 0), .int .i64 (A[1]?.getD 0), .int .i64 (A[2]?.getD 0), .int .i64 (A[3]?.getD 0), .int .i64 (A[4]?.getD 0), .slice po pn pc, .slice q1 q2 q3] 71) := ⟨_, rfl⟩
          rw [← hv2]
          have nv2 : New wr v2 := by rw [hv2]; exact (New.refl _).alloc _
          have p5 : v2.cell? ⟨wr.heap.size, 5, none⟩ = some (.slice po pn pc) := by rw [hv2]; simp [go_sem]
          have NV2 := Lib.hid nv2
          have P5 := Lib.hid p5
          clear hv2 nv2 p5
          go_wp2_with fail
          refine (measures_any _ w1.heap.size gp T cp k n ca aa A (.slice po pn pc) (.slice q1 q2 q3) x ((NW.out.trans NV2.out).cell C0.out) ((NW.out.trans NV2.out).cell C1.out) (range_new HR.out NV2.out) hlt n5 (by rw [AA.out]; exact GA.out k KE.out)).mono ?_
          rintro e w3 ⟨rfl, n3⟩
          have N3 := Lib.hid (NV2.out.trans n3)
          have p5 := n3.cell P5.out
          clear n3
          have HE := Lib.hid (show decide (x ∈ A) = amtK E x k from by rw [AA.out]; rfl)
          rw [HE.out]
          cases hy : amtK E x k
          case true =>
            have ZK := Lib.hid (show z = (wayN E k, true) from by rw [ZE.out, ptaL_at hy NO.out KE.out])
            clear hy
            have own0 := PL.out k KE.out
            rw [PO.out] at own0
            obtain ⟨oa, oc, e1, o1⟩ := OwnP.of_row own0
            cases e1
            have O1 := Lib.hid ((show ∀ q, q = (wayN E k).length → OwnP w1 base w1.heap.size po q pc (wayN E k) from fun q e => by subst e; exact o1) pn PN.out)
            have NF := Lib.hid ((NV1.out.trans NW.out).trans N3.out)
            have z3 := NF.out.size
            clear own0 o1
            go_wp2
            go_ret2
            rw [ZK.out]
            exact ⟨_, _, _, rfl, (O1.out.new NF.out).mono (by have := LO.out; simp at this; omega) z3, N1.out.trans NF.out⟩
          case false =>
            have HY := Lib.hid hy; clear hy
            go_wp2
            go_roundw
            case rel =>
              refine ⟨k + 1, by go_num, by omega, NW.out.trans N3.out, fun j hj => ?_⟩
              by_cases e : j = k
              · subst e; exact HY.out
              · exact NO.out j (by omega)
            case measure => simp [intOf]; omega
        · obtain rfl : k = T := by omega
          have ZK := Lib.hid (show z = ([], false) from by rw [ZE.out, ptaL_none (by rw [← HT.out]; exact NO.out)])
          go_wp2
          go_ret2
          rw [ZK.out]
          exact ⟨none, 0, 0, rfl, OwnP.nil _ _ _, (N1.out.trans NV1.out).trans NW.out⟩
    · have ZE := Lib.hid (show z = ([], false) from by rw [HZ.out, ptaM_no (by unfold amtB'; rw [hc, Bool.false_and])])
      clear hc
      unfold noneS
      go_wp2
      go_ret2
      rw [ZE.out]
      exact ⟨none, 0, 0, rfl, OwnP.nil _ _ _, N1.out.alloc _⟩
end Go.Proofs.Ytjailklnagfglaa
