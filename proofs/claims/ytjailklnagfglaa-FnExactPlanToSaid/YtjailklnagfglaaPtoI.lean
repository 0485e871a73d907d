/- The plan to vessels: the model's and the program's. -/
import Derived.Test.YtjailklnagfglaaIsI
import Derived.Test.YtjailklnagfglaaAmtP
namespace Go.Proofs.Ytjailklnagfglaa
open Go.RowKit Go.Maps

def firstP (p : Nat → Bool) : Nat → Nat
  | 0 => 0
  | n + 1 => if firstP p n < n then firstP p n else if p n = true then n else n + 1
theorem firstP_none {p : Nat → Bool} {n : Nat} (h : ∀ j, j < n → p j = false) : firstP p n = n := by
  induction n with
  | zero => rfl
  | succ n ih =>
    have q := ih fun j hj => h j (by omega)
    unfold firstP
    rw [q, if_neg (by omega), h n (by omega)]
    simp
theorem firstP_at {p : Nat → Bool} {k : Nat} (hk : p k = true) (h : ∀ j, j < k → p j = false) {n : Nat} (hn : k < n) : firstP p n = k := by
  induction n with
  | zero => omega
  | succ n ih =>
    by_cases e : k < n
    · have q := ih e
      unfold firstP
      rw [q, if_pos e]
    · obtain rfl : k = n := by omega
      have q := firstP_none h
      unfold firstP
      rw [q, if_neg (by omega), if_pos hk]
def numK (E : List Node) (K : List Int) : Nat := firstP (fun j => decide ((E[j]?.getD dN).h = K)) E.length
theorem numK_at {S H K : List Int} {E : List Node} (hf : Found S H E) {k : Nat} (hk : k < E.length) (e : (E[k]?.getD dN).h = K) : numK E K = k :=
  firstP_at (decide_eq_true e) (fun j hj => decide_eq_false fun e2 => hf.once j k hj hk (e2.trans e.symm)) hk
def ptoL (E : List Node) (K : List Int) : List (Int × Int) × Bool := if nHas E K = true then (wayN E (numK E K), true) else ([], false)
theorem ptoL_yes {S H K : List Int} {E : List Node} (hf : Found S H E) {k : Nat} (hk : k < E.length) (e : (E[k]?.getD dN).h = K) : ptoL E K = (wayN E k, true) := by
  unfold ptoL
  rw [if_pos (nHas_iff.2 ⟨k, hk, e⟩), numK_at hf hk e]
theorem ptoL_no {K : List Int} {E : List Node} (h : nHas E K = false) : ptoL E K = ([], false) := by
  unfold ptoL
  rw [h]
  simp
theorem ptoL_small {S H K : List Int} {E : List Node} (hf : Found S H E) : (ptoL E K).1.length ≤ E.length := by
  by_cases h : nHas E K = true
  · obtain ⟨k, hk, e⟩ := nHas_iff.1 h
    rw [ptoL_yes hf hk e]
    exact Nat.le_trans (wayN_small hf hk) (by omega)
  · rw [ptoL_no (by simpa using h)]
    simp
def ptoM (S H T K : List Int) (cl : Bool) : List (Int × Int) × Bool := if btwB S H T K cl = true then ptoL (endN S H cl 3000) K else ([], false)
theorem ptoM_yes {S H T K : List Int} {cl : Bool} (h : btwB S H T K cl = true) : ptoM S H T K cl = ptoL (endN S H cl 3000) K := by simp [ptoM, h]
theorem ptoM_no {S H T K : List Int} {cl : Bool} (h : btwB S H T K cl = false) : ptoM S H T K cl = ([], false) := by simp [ptoM, h]
theorem pto_small {ok : Bool} {S H K : List Int} {cl : Bool} {most : Nat} (hg : ok = true → (goodB S H && fewB S H cl most) = true) : (if ok = true then ptoL (endN S H cl most) K else (([] : List (Int × Int)), false)).1.length ≤ most := by
  cases ok
  · simp
  · have h := hg rfl
    obtain ⟨h1, h2⟩ := goodfew h
    rw [if_pos rfl]
    exact Nat.le_trans (ptoL_small (endN_found cl most h1)) h2
theorem btwF {S H T K : List Int} {cl : Bool} {most : Nat} (h : (sizB S H T K && fewB S H cl most) = true) : (goodB S H && fewB S H cl most) = true := by
  rw [Bool.and_eq_true] at h
  rw [Bool.and_eq_true, goodB_iff]
  exact ⟨(sizB_iff.1 h.1).1, h.2⟩
theorem ptoM_small (S H T K : List Int) (cl : Bool) : (ptoM S H T K cl).1.length ≤ 1048576 := Nat.le_trans (pto_small (ok := btwB S H T K cl) (most := 3000) fun h => btwF (most := 3000) h) (by omega)

set_option maxRecDepth 100000 in
set_option maxHeartbeats 4000000 in
theorem iPlanTo_any (w : World) (aa ab ba bb : Option Addr) (n m p q ca cb cc cd : Nat) (S H T K : List Int) (cl : Bool) (h1 : Ints w aa n ca S) (h2 : Ints w ab m cb H) (h3 : Ints w ba p cc T) (h4 : Ints w bb q cd K) :
    Calls Try.prog 18 #[.agg #[.slice aa n ca, .slice ab m cb], .agg #[.slice ba p cc, .slice bb q cd], .bool cl] w (RetP w (ptoM S H T K cl).1 (ptoM S H T K cl).2) := by
  obtain ⟨kf, KF⟩ := keyH_ex
  have HA := Lib.hid h1; clear h1
  have HB := Lib.hid h2; clear h2
  have HC := Lib.hid h3; clear h3
  have HD := Lib.hid h4; clear h4
  obtain ⟨z, hz⟩ : ∃ z, z = ptoM S H T K cl := ⟨_, rfl⟩
  rw [← hz]
  have HZ := Lib.hid hz; clear hz
  go_enter Try.func18, Try.ntmps18
  go_wp2_with fail
  refine (searchBetween_any kf KF _ _ _ _ _ _ _ _ _ _ _ _ _ S H T K cl (HA.out.new (by repeat (first | with_reducible exact New.refl _ | with_reducible assumption | refine New.drewN ?_ _ | refine New.drew ?_ | refine New.alloc ?_ _ | refine New.setCell ?_ (by first | omega | (simp; omega) | (simp; done)) _ | (refine New.trans ?_ (by assumption))))) (HB.out.new (by repeat (first | with_reducible exact New.refl _ | with_reducible assumption | refine New.drewN ?_ _ | refine New.drew ?_ | refine New.alloc ?_ _ | refine New.setCell ?_ (by first | omega | (simp; omega) | (simp; done)) _ | (refine New.trans ?_ (by assumption))))) (HC.out.new (by repeat (first | with_reducible exact New.refl _ | with_reducible assumption | refine New.drewN ?_ _ | refine New.drew ?_ | refine New.alloc ?_ _ | refine New.setCell ?_ (by first | omega | (simp; omega) | (simp; done)) _ | (refine New.trans ?_ (by assumption))))) (HD.out.new (by repeat (first | with_reducible exact New.refl _ | with_reducible assumption | refine New.drewN ?_ _ | refine New.drew ?_ | refine New.alloc ?_ _ | refine New.setCell ?_ (by first | omega | (simp; omega) | (simp; done)) _ | (refine New.trans ?_ (by assumption)))))).mono ?_
  rintro e w1 ⟨n1, h⟩
  have b0 : w1.cell? ⟨w.heap.size + 1, 0, none⟩ = some (.slice ba p cc) := n1.cell (by simp [go_sem])
  have b1 : w1.cell? ⟨w.heap.size + 1, 1, none⟩ = some (.slice bb q cd) := n1.cell (by simp [go_sem])
  have N1 := Lib.hid (show New w w1 from New.trans (by repeat (first | with_reducible exact New.refl _ | with_reducible assumption | refine New.drewN ?_ _ | refine New.drew ?_ | refine New.alloc ?_ _ | refine New.setCell ?_ (by first | omega | (simp; omega) | (simp; done)) _ | (refine New.trans ?_ (by assumption)))) n1); clear n1
  rcases h with ⟨hc, E, hE, base, mb, vp, vl, P, St, rfl, fv⟩ | ⟨hc, rfl⟩
  · have hs : sizB S H T K = true := by
      unfold btwB at hc
      rw [Bool.and_eq_true] at hc
      exact hc.1
    have hf : fewB S H cl 3000 = true := by rw [← btwB_eq hs]; exact hc
    obtain ⟨hG, hG2, hST⟩ := sizB_iff.1 hs
    have ff := few_found hG hf
    have ZE := Lib.hid (show z = ptoL E K from by rw [HZ.out, ptoM_yes hc, hE])
    rw [← hE] at ff
    have GK := Lib.hid (show Good S K from by rw [hST]; exact hG2)
    have k5 : K.length ≤ 5 := by have := GK.out.1; have := GK.out.2.1; omega
    have K5 := Lib.hid k5
    have FF := Lib.hid ff
    clear hc hs hf hG hG2 hST hE ff k5
    obtain ⟨gp, cap, hv, hra⟩ := place_at fv.places FF.out.1.pos
    subst hv
    have RA := Lib.hid hra
    have PL := Lib.hid fv.plans
    have LO := Lib.hid fv.lo
    clear hra
    obtain ⟨al, capl, hvl⟩ := own_slice fv.layers
    subst hvl
    obtain ⟨D, om, nu⟩ := fv.map
    have OM := Lib.hid om
    have NU := Lib.hid nu
    clear fv om nu
    have HK := Lib.hid (KF K (good_five GK.out))
    have HE := Lib.hid (NU.out.has_eq KF FF.out.1 GK.out)
    go_upto_region 4 with fail
    obtain ⟨v1, hv1⟩ : ∃ v, v = w1.alloc (.cells #[.slice aa n ca, .slice (some ⟨gp, 0, none⟩) E.length cap, .slice al (layN E).length capl, .map (some mb)] 60) := ⟨_, rfl⟩
    rw [← hv1]
    have nv1 : New w1 v1 := by rw [hv1]; exact (New.refl _).alloc _
    have m1 : v1.cell? ⟨w1.heap.size, 1, none⟩ = some (.slice (some ⟨gp, 0, none⟩) E.length cap) := by rw [hv1]; simp [go_sem]
    have M1 := Lib.hid m1
    have m3 : v1.cell? ⟨w1.heap.size, 3, none⟩ = some (.map (some mb)) := by rw [hv1]; simp [go_sem]
    have d0 : v1.drew.cell? ⟨w.heap.size + 1, 0, none⟩ = some (.slice ba p cc) := nv1.cell b0
    have d1 : v1.drew.cell? ⟨w.heap.size + 1, 1, none⟩ = some (.slice bb q cd) := nv1.cell b1
    have d3 : v1.drew.cell? ⟨w1.heap.size, 3, none⟩ = some (.map (some mb)) := m3
    have NV := Lib.hid nv1
    clear hv1 nv1 m1 m3 b0 b1
    go_region_held3 (fun w' => w'.cell? ⟨w.heap.size + 1, 0, none⟩ = some (.slice ba p cc) ∧ w'.cell? ⟨w.heap.size + 1, 1, none⟩ = some (.slice bb q cd) ∧ w'.cell? ⟨w1.heap.size, 3, none⟩ = some (.map (some mb)))
      (first | with_reducible exact ⟨d0, d1, d3⟩ | with_reducible exact ⟨y0, y1, y3⟩ | fail)
      (first
        | (go_at_call 42; refine (holdingOf_any _ _ _ _ _ _ _ K (HD.out.new (N1.out.trans (NV.out.trans (New.refl _).drew))) K5.out).mono ?_; rintro e w4 ⟨rfl, n4⟩; have y0 := n4.cell d0; have y1 := n4.cell d1; have y3 := n4.cell d3; have om4 := ownsMap_blk OM.out ((NV.out.trans (New.undrew n4)).block _ (ownsMap_low OM.out)); have lk := look_at om4 HK.out; rw [HE.out] at lk; obtain ⟨c, hrun, hat⟩ := lk))
    have N4 := Lib.hid (NV.out.trans (New.undrew n4))
    have c1 := (New.undrew n4).cell M1.out
    have HC2 := Lib.hid hat
    clear n4 hrun hat y0 y1 y3 d0 d1 d3
    obtain ⟨t, ht⟩ : ∃ t, t = nHas E K := ⟨_, rfl⟩
    rw [← ht]
    have HT := Lib.hid ht; clear ht
    cases t
    case false =>
      have ZK := Lib.hid (show z = ([], false) from by rw [ZE.out, ptoL_no HT.out.symm])
      clear c1
      go_wp2
      go_ret2
      rw [ZK.out]
      exact ⟨none, 0, 0, rfl, OwnP.nil _ _ _, N1.out.trans N4.out⟩
    case true =>
      obtain ⟨i, hi, hK, hc⟩ := look_found NU.out HC2.out HT.out.symm
      subst hc
      have ZK := Lib.hid (show z = (wayN E i, true) from by rw [ZE.out, ptoL_yes FF.out.1 hi hK])
      have iI : (i : Int) < (E.length : Int) := by omega
      obtain ⟨oa, oc, hpo, o1⟩ := OwnP.of_row (PL.out i hi)
      have p5 : w4.cell? ⟨gp, i * 7 + 5, none⟩ = some (.slice oa (wayN E i).length oc) := by
        have q := N4.out.cell (RA.out i hi 5 (P i) rfl)
        rw [hpo] at q
        exact q
      have O1 := Lib.hid o1
      have z4 := N4.out.size
      clear hi hK o1 hpo
      go_wp2
      go_ret2
      rw [ZK.out]
      exact ⟨_, _, _, rfl, (O1.out.new N4.out).mono (by have := LO.out; simp at this; omega) z4, N1.out.trans N4.out⟩
  · have ZE := Lib.hid (show z = ([], false) from by rw [HZ.out, ptoM_no hc])
    clear hc
    unfold noneS
    go_wp2
    go_ret2
    rw [ZE.out]
    exact ⟨none, 0, 0, rfl, OwnP.nil _ _ _, N1.out.alloc _⟩
set_option maxRecDepth 100000 in
set_option maxHeartbeats 4000000 in
theorem sPlanTo_any (w : World) (aa ab ba bb : Option Addr) (n m p q ca cb cc cd : Nat) (S H T K : List Int) (cl : Bool) (h1 : Ints w aa n ca S) (h2 : Ints w ab m cb H) (h3 : Ints w ba p cc T) (h4 : Ints w bb q cd K) :
    Calls Try.prog 17 #[.agg #[.slice aa n ca, .slice ab m cb], .agg #[.slice ba p cc, .slice bb q cd], .bool cl] w (RetP w (ptoM S H T K cl).1 (ptoM S H T K cl).2) := by
  have HA := Lib.hid h1; clear h1
  have HB := Lib.hid h2; clear h2
  have HC := Lib.hid h3; clear h3
  have HD := Lib.hid h4; clear h4
  obtain ⟨z, hz⟩ : ∃ z, z = ptoM S H T K cl := ⟨_, rfl⟩
  rw [← hz]
  have HZ := Lib.hid hz; clear hz
  cases hs : sizB S H T K
  case false =>
    have ZE := Lib.hid (show z = ([], false) from by rw [HZ.out, ptoM_no (btwB_no1 hs)])
    have HS := Lib.hid hs; clear hs
    go_enter Try.func17, Try.ntmps17
    go_wp2_with fail
    refine (plSizes_any _ _ _ _ _ _ _ _ _ _ _ _ _ S H T K (HA.out.new (by repeat (first | with_reducible exact New.refl _ | with_reducible assumption | refine New.drewN ?_ _ | refine New.drew ?_ | refine New.alloc ?_ _ | refine New.setCell ?_ (by first | omega | (simp; omega) | (simp; done)) _ | (refine New.trans ?_ (by assumption))))) (HB.out.new (by repeat (first | with_reducible exact New.refl _ | with_reducible assumption | refine New.drewN ?_ _ | refine New.drew ?_ | refine New.alloc ?_ _ | refine New.setCell ?_ (by first | omega | (simp; omega) | (simp; done)) _ | (refine New.trans ?_ (by assumption))))) (HC.out.new (by repeat (first | with_reducible exact New.refl _ | with_reducible assumption | refine New.drewN ?_ _ | refine New.drew ?_ | refine New.alloc ?_ _ | refine New.setCell ?_ (by first | omega | (simp; omega) | (simp; done)) _ | (refine New.trans ?_ (by assumption))))) (HD.out.new (by repeat (first | with_reducible exact New.refl _ | with_reducible assumption | refine New.drewN ?_ _ | refine New.drew ?_ | refine New.alloc ?_ _ | refine New.setCell ?_ (by first | omega | (simp; omega) | (simp; done)) _ | (refine New.trans ?_ (by assumption)))))).mono ?_
    rintro e w1 ⟨rfl, n1⟩
    rw [HS.out]
    have N1 := Lib.hid (show New w w1 from New.trans (by repeat (first | with_reducible exact New.refl _ | with_reducible assumption | refine New.drewN ?_ _ | refine New.drew ?_ | refine New.alloc ?_ _ | refine New.setCell ?_ (by first | omega | (simp; omega) | (simp; done)) _ | (refine New.trans ?_ (by assumption)))) n1); clear n1
    go_wp2
    go_ret2
    rw [ZE.out]
    exact ⟨none, 0, 0, rfl, OwnP.nil _ _ _, N1.out⟩
  case true =>
    obtain ⟨hG, hG2, hST⟩ := sizB_iff.1 hs
    have HS := Lib.hid hs
    have HG := Lib.hid hG
    have KL := Lib.hid (show K.length = S.length from by rw [hG2.2.1, hST])
    have HE := Lib.hid (btwB_eq (cl := cl) hs)
    clear hs hG hG2 hST
    go_enter Try.func17, Try.ntmps17
    go_wp2_with fail
    refine (plSizes_any _ _ _ _ _ _ _ _ _ _ _ _ _ S H T K (HA.out.new (by repeat (first | with_reducible exact New.refl _ | with_reducible assumption | refine New.drewN ?_ _ | refine New.drew ?_ | refine New.alloc ?_ _ | refine New.setCell ?_ (by first | omega | (simp; omega) | (simp; done)) _ | (refine New.trans ?_ (by assumption))))) (HB.out.new (by repeat (first | with_reducible exact New.refl _ | with_reducible assumption | refine New.drewN ?_ _ | refine New.drew ?_ | refine New.alloc ?_ _ | refine New.setCell ?_ (by first | omega | (simp; omega) | (simp; done)) _ | (refine New.trans ?_ (by assumption))))) (HC.out.new (by repeat (first | with_reducible exact New.refl _ | with_reducible assumption | refine New.drewN ?_ _ | refine New.drew ?_ | refine New.alloc ?_ _ | refine New.setCell ?_ (by first | omega | (simp; omega) | (simp; done)) _ | (refine New.trans ?_ (by assumption))))) (HD.out.new (by repeat (first | with_reducible exact New.refl _ | with_reducible assumption | refine New.drewN ?_ _ | refine New.drew ?_ | refine New.alloc ?_ _ | refine New.setCell ?_ (by first | omega | (simp; omega) | (simp; done)) _ | (refine New.trans ?_ (by assumption)))))).mono ?_
    rintro e w1 ⟨rfl, n1⟩
    rw [HS.out]
    have a0 : w1.cell? ⟨w.heap.size, 0, none⟩ = some (.slice aa n ca) := n1.cell (by simp [go_sem])
    have a1 : w1.cell? ⟨w.heap.size, 1, none⟩ = some (.slice ab m cb) := n1.cell (by simp [go_sem])
    have b0 : w1.cell? ⟨w.heap.size + 1, 0, none⟩ = some (.slice ba p cc) := n1.cell (by simp [go_sem])
    have b1 : w1.cell? ⟨w.heap.size + 1, 1, none⟩ = some (.slice bb q cd) := n1.cell (by simp [go_sem])
    have N1 := Lib.hid (show New w w1 from New.trans (by repeat (first | with_reducible exact New.refl _ | with_reducible assumption | refine New.drewN ?_ _ | refine New.drew ?_ | refine New.alloc ?_ _ | refine New.setCell ?_ (by first | omega | (simp; omega) | (simp; done)) _ | (refine New.trans ?_ (by assumption)))) n1); clear n1
    go_wp2_with fail
    refine (plAll_any _ _ _ _ _ _ _ S H cl (HA.out.new N1.out) (HB.out.new N1.out) HG.out).mono ?_
    intro e w2 hp
    obtain ⟨n2, h2⟩ := hp.parts
    clear hp
    replace b0 := n2.cell b0
    replace b1 := n2.cell b1
    have N2 := Lib.hid (N1.out.trans n2)
    clear a0 a1 n2
    rcases h2 with ⟨hf, E, hE, R, base, O, va, vf, vm, vr, vo, P, Q, rfl, rc⟩ | ⟨hf, R, rfl⟩
    · have ff := few_found HG.out hf
      have ZE := Lib.hid (show z = ptoL E K from by rw [HZ.out, ptoM_yes (by rw [HE.out]; exact hf), hE])
      rw [← hE] at ff
      have FF := Lib.hid ff
      have RD := Lib.hid (rc.read ff.1.pos)
      have RO := Lib.hid rc.ord
      have RC := Lib.hid rc
      clear hf hE rc ff
      go_wp2_with fail
      refine (plPlace_any _ R S H E O _ _ _ _ _ _ K RD.out (HD.out.new N2.out) KL.out FF.out.1 RO.out (by have := FF.out.2; omega)).mono ?_
      rintro e w3 ⟨at', rfl, pl, n3⟩
      have N3 := Lib.hid n3; clear n3
      obtain ⟨t, ht⟩ : ∃ t, t = nHas E K := ⟨_, rfl⟩
      rw [← ht]
      have HT := Lib.hid ht
      have FD := Lib.hid (pl.found RO.out)
      clear ht pl
      cases t
      case false =>
        have ZK := Lib.hid (show z = ([], false) from by rw [ZE.out, ptoL_no HT.out.symm])
        go_wp2
        go_ret2
        rw [ZK.out]
        exact ⟨none, 0, 0, rfl, OwnP.nil _ _ _, N2.out.trans N3.out⟩
      case true =>
        have hd : at' < O.length ∧ heldAt E O at' = K := by
          have q := FD.out
          rw [← HT.out] at q
          exact of_decide_eq_true q.symm
        obtain ⟨kk, hkk⟩ : ∃ kk, kk = O[at']?.getD 0 := ⟨_, rfl⟩
        have hb : kk < E.length := by rw [hkk]; exact RO.out.bnd at' hd.1
        have hK : (E[kk]?.getD dN).h = K := by rw [hkk]; exact hd.2
        have hal : at' < E.length := by rw [← RO.out.len]; exact hd.1
        have ZK := Lib.hid (show z = (wayN E kk, true) from by rw [ZE.out, ptoL_yes FF.out.1 hb hK])
        obtain ⟨_, _, go, co, _, c4, _, ol⟩ := RD.out
        have o1 := N3.out.cell (ol at' hal)
        rw [← hkk] at o1
        have c4' := N3.out.cell c4
        have aI : (at' : Int) < (E.length : Int) := by omega
        have KB := Lib.hid hb
        have EB := Lib.hid FF.out.2
        have R3 := Lib.hid (RC.out.newer N3.out)
        clear hd hkk hb hK hal c4 ol
        go_wp2_with fail
        refine (plWay_any _ _ R base S H E O va vf vm vr vo P Q kk R3.out FF.out.1 KB.out (by have := EB.out; omega)).mono ?_
        rintro e w4 ⟨oa, on, oc, rfl, o4, n4⟩
        have O4 := Lib.hid o4
        have N4 := Lib.hid n4
        have z4 := (N2.out.trans N3.out).size
        clear o4 n4
        go_wp2
        go_ret2
        rw [ZK.out]
        exact ⟨_, _, _, rfl, O4.out.mono (by omega) (Nat.le_refl _), (N2.out.trans N3.out).trans N4.out⟩
    · have ZE := Lib.hid (show z = ([], false) from by rw [HZ.out, ptoM_no (by rw [HE.out]; exact hf)])
      clear hf
      go_wp2
      go_ret2
      rw [ZE.out]
      exact ⟨none, 0, 0, rfl, OwnP.nil _ _ _, N2.out⟩
end Go.Proofs.Ytjailklnagfglaa
