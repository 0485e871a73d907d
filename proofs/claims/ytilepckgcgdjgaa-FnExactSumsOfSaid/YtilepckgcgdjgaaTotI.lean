/- What all vessels together hold: the program's. -/
import Derived.Test.YtilepckgcgdjgaaAmoI
namespace Go.Proofs.Ytilepckgcgdjgaa
open Go.RowKit Go.Maps

set_option maxRecDepth 100000 in
set_option maxHeartbeats 4000000 in
theorem iSumsOf_any (w : World) (aa ab : Option Addr) (n m ca cb : Nat) (S H : List Int) (h1 : Ints w aa n ca S) (h2 : Ints w ab m cb H) :
    Calls Try.prog 19 #[.agg #[.slice aa n ca, .slice ab m cb]] w (RetI w (totM S H).1 (totM S H).2) := by
  obtain ⟨kf, KF⟩ := keyH_ex
  have LA := Lib.hid h1.len
  have HA := Lib.hid h1; clear h1
  have HB := Lib.hid h2; clear h2
  obtain ⟨z, hz⟩ : ∃ z, z = totM S H := ⟨_, rfl⟩
  rw [← hz]
  have HZ := Lib.hid hz; clear hz
  go_enter Try.func19, Try.ntmps19
  go_wp2_with fail
  refine (reachedFrom_any kf KF _ _ _ _ _ _ _ S H false 3000 (HA.out.new (by repeat (first | with_reducible exact New.refl _ | with_reducible assumption | refine New.drewN ?_ _ | refine New.drew ?_ | refine New.alloc ?_ _ | refine New.setCell ?_ (by first | omega | (simp; omega) | (simp; done)) _ | (refine New.trans ?_ (by assumption))))) (HB.out.new (by repeat (first | with_reducible exact New.refl _ | with_reducible assumption | refine New.drewN ?_ _ | refine New.drew ?_ | refine New.alloc ?_ _ | refine New.setCell ?_ (by first | omega | (simp; omega) | (simp; done)) _ | (refine New.trans ?_ (by assumption))))) (by omega) (by omega)).mono ?_
  intro e w1 hp
  obtain ⟨n1, h⟩ := hp.parts
  clear hp
  have N1 := Lib.hid (show New w w1 from New.trans (by repeat (first | with_reducible exact New.refl _ | with_reducible assumption | refine New.drewN ?_ _ | refine New.drew ?_ | refine New.alloc ?_ _ | refine New.setCell ?_ (by first | omega | (simp; omega) | (simp; done)) _ | (refine New.trans ?_ (by assumption)))) n1)
  have Z0 := Lib.hid n1.size; clear n1
  rcases h with ⟨hc, E, hE, base, mb, vp, vl, P, St, rfl, fv⟩ | ⟨hc, rfl⟩
  · obtain ⟨hG, hl⟩ := countB_good hc
    have hfd := endN_found false 3000 hG
    rw [← hE] at hl hfd
    have FD := Lib.hid hfd
    have ZE := Lib.hid (show z = (numK (totL E E.length) 301, true) from by rw [HZ.out, totM_yes hc, hE])
    have n5 : n ≤ 5 := by have := hG.1; have := LA.out; omega
    have n0 : 0 < n := by have := hG.1; have := LA.out; omega
    have GA := Lib.hid (show ∀ k, k < E.length → n = (E[k]?.getD dN).h.length from fun k hk => by rw [LA.out]; exact (FD.out.good k hk).2.1.symm)
    have hpos := hfd.pos
    clear hE hc hG
    obtain ⟨gp, cp, hv, hra⟩ := place_at fv.places hpos
    subst hv
    obtain ⟨al, capl, hvl⟩ := own_slice fv.layers
    subst hvl
    have RA := Lib.hid hra
    obtain ⟨T, hT⟩ : ∃ T, T = E.length := ⟨_, rfl⟩
    rw [← hT] at hl hpos
    rw [← hT]
    have HT := Lib.hid hT
    clear hra fv hfd hT
    go_upto_region 4 with fail
    obtain ⟨v1, hv1⟩ : ∃ v, v = w1.alloc (.cells #[.slice aa n ca, .slice (some ⟨gp, 0, none⟩) T cp, .slice al (layN E).length capl, .map (some mb)] 60) := ⟨_, rfl⟩
    rw [← hv1]
    have nv1 : New w1 v1 := by rw [hv1]; exact (New.refl _).alloc _
    have c0 : v1.cell? ⟨w1.heap.size, 0, none⟩ = some (.slice aa n ca) := by rw [hv1]; simp [go_sem]
    have c1 : v1.cell? ⟨w1.heap.size, 1, none⟩ = some (.slice (some ⟨gp, 0, none⟩) T cp) := by rw [hv1]; simp [go_sem]
    have C0 := Lib.hid c0
    have C1 := Lib.hid c1
    have NV1 := Lib.hid nv1
    clear hv1 nv1 c0
    obtain ⟨i0, hi, hz0, hz1, hz2⟩ := info_parts Try.infoInt
    go_wp2
    go_loopw [6, 21] (fun vo i wr => ∃ k : Nat, i = .int .i64 k ∧ k ≤ T ∧ New v1 wr ∧ wr.ownsRow v1.heap.size 3 1 vo k ((totL E k).map (Value.int .i64))) (fun _ i _ => T - (intOf i).toNat)
    case atStart => exact ⟨0, rfl, Nat.zero_le _, New.refl _, World.ownsRow_nil _ _ _ _⟩
    case round =>
      obtain ⟨k, rfl, hk, hnw, hro⟩ := hrel
      have NW := Lib.hid hnw; clear hnw
      clear c1
      by_cases hlt : k < T
      · have RO := Lib.hid hro; clear hro
        have KE := Lib.hid (show k < E.length from by have := HT.out; omega)
        obtain ⟨A, hA'⟩ : ∃ A, A = (E[k]?.getD dN).h := ⟨_, rfl⟩
        have AA := Lib.hid hA'
        have hr := range_new (RA.out k KE.out) (NV1.out.trans NW.out)
        rw [← hA'] at hr
        have IA := Lib.hid (ints_at hr (show n = A.length from by rw [AA.out]; exact GA.out k KE.out) n5)
        have AL := Lib.hid (show n = A.length from by rw [AA.out]; exact GA.out k KE.out)
        have GH := Lib.hid (show ∀ j, j < A.length → 0 ≤ A[j]?.getD 0 ∧ A[j]?.getD 0 ≤ 60 from by rw [AA.out]; exact good_held (FD.out.good k KE.out))
        clear hr hA'
        have kI : (k : Int) < (T : Int) := by omega
        go_wp2_with fail
        refine (heldAt_any _ w1.heap.size gp T cp k n ca aa ((NW.out.trans (by repeat (first | with_reducible exact New.refl _ | with_reducible assumption | refine New.drewN ?_ _ | refine New.drew ?_ | refine New.alloc ?_ _ | refine New.setCell ?_ (by first | omega | (simp; omega) | (simp; done)) _ | (refine New.trans ?_ (by assumption))))).cell C0.out) ((NW.out.trans (by repeat (first | with_reducible exact New.refl _ | with_reducible assumption | refine New.drewN ?_ _ | refine New.drew ?_ | refine New.alloc ?_ _ | refine New.setCell ?_ (by first | omega | (simp; omega) | (simp; done)) _ | (refine New.trans ?_ (by assumption))))).cell C1.out) hlt n5).mono ?_
        rintro e w3 ⟨rfl, n3⟩
        have N3 := Lib.hid (show New wr w3 from New.trans (by repeat (first | with_reducible exact New.refl _ | with_reducible assumption | refine New.drewN ?_ _ | refine New.drew ?_ | refine New.alloc ?_ _ | refine New.setCell ?_ (by first | omega | (simp; omega) | (simp; done)) _ | (refine New.trans ?_ (by assumption)))) n3)
        have N3' := Lib.hid (show New v1 w3 from NW.out.trans N3.out)
        have RO2 := Lib.hid (ownsRow_new RO.out N3.out)
        have IA2 := Lib.hid (IA.out.new N3.out)
        clear n3
        go_wp2
        go_loop [8, 27] (fun s i => ∃ j : Nat, j ≤ n ∧ i = .int .i64 j ∧ s = .int .i64 (sumOf (A.take j))) (fun _ i => n - (intOf i).toNat)
        case atStart => exact ⟨0, Nat.zero_le _, rfl, rfl⟩
        case round =>
          obtain ⟨j, hj, rfl, rfl⟩ := hrel
          have hs := sumOf_le A GH.out j (by have := AL.out; omega)
          obtain ⟨s0, s1⟩ := hs
          by_cases hlt2 : j < n
          · obtain ⟨b, o, hbo, hcl, _⟩ := IA2.out.at hlt2
            cases hbo
            obtain ⟨x0, x1⟩ := GH.out j (by have := AL.out; omega)
            have HS := Lib.hid (sumOf_snoc A j (by have := AL.out; omega))
            obtain ⟨x, hx⟩ : ∃ x, x = A[j]?.getD 0 := ⟨_, rfl⟩
            obtain ⟨y, hy⟩ : ∃ y, y = sumOf (A.take j) := ⟨_, rfl⟩
            rw [← hx] at hcl x0 x1
            rw [← hy] at s0 s1 ⊢
            have HX := Lib.hid hx
            have HY := Lib.hid hy
            have ws : IntKind.i64.wrap (y + x) = y + x := IntWalk.i64_in _ (by omega)
            clear hx hy
            go_wp2
            go_round
            case rel => exact ⟨j + 1, by omega, by go_num, by rw [HS.out, ← HX.out, ← HY.out]⟩
            case measure => simp [intOf]; omega
          · obtain rfl : j = n := by omega
            have hsum := Lib.hid (show sumOf (A.take j) = sumOf (E[k]?.getD dN).h from by rw [List.take_of_length_le (by have := AL.out; omega), AA.out])
            obtain ⟨y, hy⟩ : ∃ y, y = sumOf (A.take j) := ⟨_, rfl⟩
            rw [← hy]
            have HY := Lib.hid hy
            clear hy s0 s1
            have zb := N3'.out.size
            go_wp2_with (at_builtin; (refine wpList_append_lies _ (by rfl) (.tmp 35) (.tmp 37) 22 (by rfl) v1.heap.size 3 i0 (.int .i64 0) 1 8 Try.underlying22 hi hz0 hz1 hz2 rfl (by decide) _ k _ (by rfl) (ownsRow_new RO2.out (by repeat (first | with_reducible exact New.refl _ | with_reducible assumption | refine New.drewN ?_ _ | refine New.drew ?_ | refine New.alloc ?_ _ | refine New.setCell ?_ (by first | omega | (simp; omega) | (simp; done)) _ | (refine New.trans ?_ (by assumption))))) _ _ _ [.int .i64 y] (by rfl) (by rfl) (World.news_of_block (cs := #[.int .i64 y]) (t := 3) (fr := (0, 0)) (heap_laid (by simp))) (by simp [Value.oneCell']) (by omega) (by unfold maxLen; omega) (by omega) (by first | omega | (simp; omega) | (simp; done)) _ rfl ?_; intro g cap w4 ho hg hb' hlt'; have N4 := Lib.hid (New.grown (N3'.out.trans (by repeat (first | with_reducible exact New.refl _ | with_reducible assumption | refine New.drewN ?_ _ | refine New.drew ?_ | refine New.alloc ?_ _ | refine New.setCell ?_ (by first | omega | (simp; omega) | (simp; done)) _ | (refine New.trans ?_ (by assumption))))) (ownsRow_new RO2.out (by repeat (first | with_reducible exact New.refl _ | with_reducible assumption | refine New.drewN ?_ _ | refine New.drew ?_ | refine New.alloc ?_ _ | refine New.setCell ?_ (by first | omega | (simp; omega) | (simp; done)) _ | (refine New.trans ?_ (by assumption))))) (Nat.le_refl _) hg); have RO3 := Lib.hid ho; clear ho hg hb' hlt'))
            go_roundw
            case rel =>
              refine ⟨k + 1, by go_num, by omega, N4.out, ?_⟩
              rw [totL, List.map_append, ← hsum.out, ← HY.out]
              exact RO3.out
            case measure => simp [intOf]; omega
      · obtain rfl : k = T := by omega
        have hln := totL_len E k
        have hin := totL_in FD.out k (by have := HT.out; omega)
        obtain ⟨g, cap, ev, _, _, _, _⟩ := own_read hro hpos
        subst ev
        have inc := iIncreasing_any w wr v1.heap.size g cap k (totL E k) 301 ((totL E k).map Int.toNat) hln (by omega) ((N1.out.trans NV1.out).trans NW.out) (N1.out.trans NV1.out).size
          (fun x hx => by obtain ⟨y, hy, rfl⟩ := List.mem_map.1 hx; have := hin y hy; omega) (nat_ints fun x hx => (hin x hx).1) hro
        have OE := Lib.hid (occur_numK (N := 301) fun x hx => (hin x hx).1)
        rw [OE.out] at inc
        have ZK := Lib.hid (show z = (numK (totL E k) 301, true) from by rw [ZE.out, ← HT.out])
        have NV := Lib.hid (N1.out.trans NV1.out).size
        clear hro hin hln
        go_wp2_with fail
        refine inc.mono ?_
        rintro e w5 ⟨rfl, o5, n5'⟩
        obtain ⟨oa, oc, e1, o1⟩ := Own.of_row o5
        cases e1
        have O1 := Lib.hid (And.intro o1 n5')
        clear o5 o1 n5' inc
        go_wp2
        go_ret2
        rw [ZK.out]
        exact ⟨_, _, _, rfl, O1.out.1.mono NV.out (Nat.le_refl _), O1.out.2⟩
  · have ZE := Lib.hid (show z = ([], false) from by rw [HZ.out, totM_no hc])
    clear hc
    unfold noneS
    go_wp2
    go_ret2
    rw [ZE.out]
    exact ⟨none, 0, 0, rfl, Own.nil _ _ _, N1.out.alloc _⟩
end Go.Proofs.Ytilepckgcgdjgaa
