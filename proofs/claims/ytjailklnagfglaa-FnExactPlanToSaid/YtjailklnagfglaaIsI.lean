/- Whether vessels reach others, and the plan to them: the program's. -/
import Derived.Test.YtjailklnagfglaaBetween
namespace Go.Proofs.Ytjailklnagfglaa
open Go.RowKit Go.Maps

theorem look_at {w : World} {mb q : Nat} {D : DataW Unit} {A : List Int} {kl : Lit} (h : w.ownsMap Try.prog 66 (plainElem Try.prog 3) mb q D) (hk : keyOf Try.prog 66 (holdV A) = some kl) :
    ∃ c : Int, (Instr.lookup 58 (.map (some mb)) (holdV A) true).run Try.prog w = .ok (.tuple #[.int .i64 c, .bool (has D kl)]) w ∧ D.atKey kl (.lit (.int .i64 0)) = .lit (.int .i64 c) := by
  obtain ⟨lv, lps, hrun, hlv⟩ := h.look_ok holdLaw Try.underlying58 (z := .int .i64 0) (by kernel_rfl) (plainElem_int Try.underlying3 (by decide)) hk
  obtain ⟨c, rfl, hc, _⟩ := plainElem_int_inv Try.underlying3 hlv
  simp only [Prod.mk.injEq] at hc
  exact ⟨c, hrun, hc.1⟩
/-- What the look-up tells: whether they are found, and at which number. -/
theorem look_found {kf : List Int → Lit} {K : List Int} {E : List Node} {D : DataW Unit} (nu : Nums kf D E) {c : Int} (hc : D.atKey (kf K) (.lit (.int .i64 0)) = .lit (.int .i64 c)) (hh : nHas E K = true) :
    ∃ i : Nat, i < E.length ∧ (E[i]?.getD dN).h = K ∧ c = (i : Int) := by
  obtain ⟨i, hi, e⟩ := nHas_iff.1 hh
  refine ⟨i, hi, e, ?_⟩
  have q := nu.at_ i (.lit (.int .i64 0)) hi
  rw [e, hc] at q
  simpa using q

set_option maxRecDepth 100000 in
set_option maxHeartbeats 4000000 in
theorem iIsReached_any (w : World) (aa ab ba bb : Option Addr) (n m p q ca cb cc cd : Nat) (S H T K : List Int) (cl : Bool) (h1 : Ints w aa n ca S) (h2 : Ints w ab m cb H) (h3 : Ints w ba p cc T) (h4 : Ints w bb q cd K) :
    Calls Try.prog 16 #[.agg #[.slice aa n ca, .slice ab m cb], .agg #[.slice ba p cc, .slice bb q cd], .bool cl] w fun e w' => e = .returned (.tuple #[.bool (isrM S H T K cl).1, .bool (isrM S H T K cl).2]) ∧ New w w' := by
  obtain ⟨kf, KF⟩ := keyH_ex
  have HA := Lib.hid h1; clear h1
  have HB := Lib.hid h2; clear h2
  have HC := Lib.hid h3; clear h3
  have HD := Lib.hid h4; clear h4
  obtain ⟨z, hz⟩ : ∃ z, z = isrM S H T K cl := ⟨_, rfl⟩
  rw [← hz]
  have HZ := Lib.hid hz; clear hz
  go_enter Try.func16, Try.ntmps16
  go_wp2_with fail
  refine (searchBetween_any kf KF _ _ _ _ _ _ _ _ _ _ _ _ _ S H T K cl (HA.out.new (by repeat (first | with_reducible exact New.refl _ | with_reducible assumption | refine New.drewN ?_ _ | refine New.drew ?_ | refine New.alloc ?_ _ | refine New.setCell ?_ (by first | omega | (simp; omega) | (simp; done)) _ | (refine New.trans ?_ (by assumption))))) (HB.out.new (by repeat (first | with_reducible exact New.refl _ | with_reducible assumption | refine New.drewN ?_ _ | refine New.drew ?_ | refine New.alloc ?_ _ | refine New.setCell ?_ (by first | omega | (simp; omega) | (simp; done)) _ | (refine New.trans ?_ (by assumption))))) (HC.out.new (by repeat (first | with_reducible exact New.refl _ | with_reducible assumption | refine New.drewN ?_ _ | refine New.drew ?_ | refine New.alloc ?_ _ | refine New.setCell ?_ (by first | omega | (simp; omega) | (simp; done)) _ | (refine New.trans ?_ (by assumption))))) (HD.out.new (by repeat (first | with_reducible exact New.refl _ | with_reducible assumption | refine New.drewN ?_ _ | refine New.drew ?_ | refine New.alloc ?_ _ | refine New.setCell ?_ (by first | omega | (simp; omega) | (simp; done)) _ | (refine New.trans ?_ (by assumption)))))).mono ?_
  rintro e w1 ⟨n1, h⟩
  have b0 : w1.cell? ⟨w.heap.size + 1, 0, none⟩ = some (.slice ba p cc) := n1.cell (by simp [go_sem])
  have b1 : w1.cell? ⟨w.heap.size + 1, 1, none⟩ = some (.slice bb q cd) := n1.cell (by simp [go_sem])
  have N1 := Lib.hid (show New w w1 from New.trans (by repeat (first | with_reducible exact New.refl _ | with_reducible assumption | refine New.drewN ?_ _ | refine New.drew ?_ | refine New.alloc ?_ _ | refine New.setCell ?_ (by first | omega | (simp; omega) | (simp; done)) _ | (refine New.trans ?_ (by assumption)))) n1); clear n1
  rcases h with ⟨hc, E, hE, base, mb, vp, vl, P, St, rfl, fv⟩ | ⟨hc, rfl⟩
  · have hs : sizB S H T K = true := by
      unfold btwB at hc
      rw [Bool.and_eq_true] at hc
      exact hc.1
    have hf : fewB S H cl 3000 = true := by rw [← btwB_eq hs]; exact hc
    obtain ⟨hG, hG2, hST⟩ := sizB_iff.1 hs
    have ff := few_found hG hf
    have ZE := Lib.hid (show z = (nHas E K, true) from by rw [HZ.out, isrM_yes hc, hE])
    rw [← hE] at ff
    have GK := Lib.hid (show Good S K from by rw [hST]; exact hG2)
    have k5 : K.length ≤ 5 := by have := GK.out.1; have := GK.out.2.1; omega
    have K5 := Lib.hid k5
    have FF := Lib.hid ff
    clear hc hs hf hG hG2 hST hE ff k5
    obtain ⟨ao, cap, hv⟩ := own_slice fv.places
    subst hv
    obtain ⟨al, capl, hvl⟩ := own_slice fv.layers
    subst hvl
    obtain ⟨D, om, nu⟩ := fv.map
    have OM := Lib.hid om
    have NU := Lib.hid nu
    clear fv om nu
    have HK := Lib.hid (KF K (good_five GK.out))
    have HE := Lib.hid (NU.out.has_eq KF FF.out.1 GK.out)
    go_upto_region 4 with fail
    obtain ⟨v1, hv1⟩ : ∃ v, v = w1.alloc (.cells #[.slice aa n ca, .slice ao E.length cap, .slice al (layN E).length capl, .map (some mb)] 60) := ⟨_, rfl⟩
    rw [← hv1]
    have nv1 : New w1 v1 := by rw [hv1]; exact (New.refl _).alloc _
    have m3 : v1.cell? ⟨w1.heap.size, 3, none⟩ = some (.map (some mb)) := by rw [hv1]; simp [go_sem]
    have d0 : v1.drew.cell? ⟨w.heap.size + 1, 0, none⟩ = some (.slice ba p cc) := nv1.cell b0
    have d1 : v1.drew.cell? ⟨w.heap.size + 1, 1, none⟩ = some (.slice bb q cd) := nv1.cell b1
    have d3 : v1.drew.cell? ⟨w1.heap.size, 3, none⟩ = some (.map (some mb)) := m3
    have NV := Lib.hid nv1
    clear hv1 nv1 m3 b0 b1
    go_region_held3 (fun w' => w'.cell? ⟨w.heap.size + 1, 0, none⟩ = some (.slice ba p cc) ∧ w'.cell? ⟨w.heap.size + 1, 1, none⟩ = some (.slice bb q cd) ∧ w'.cell? ⟨w1.heap.size, 3, none⟩ = some (.map (some mb)))
      (first | with_reducible exact ⟨d0, d1, d3⟩ | with_reducible exact ⟨y0, y1, y3⟩ | fail)
      (first
        | (go_at_call 42; refine (holdingOf_any _ _ _ _ _ _ _ K (HD.out.new (N1.out.trans (NV.out.trans (New.refl _).drew))) K5.out).mono ?_; rintro e w4 ⟨rfl, n4⟩; have y0 := n4.cell d0; have y1 := n4.cell d1; have y3 := n4.cell d3; have om4 := ownsMap_blk OM.out ((NV.out.trans (New.undrew n4)).block _ (ownsMap_low OM.out)); have lk := look_at om4 HK.out; rw [HE.out] at lk; obtain ⟨c, hrun, hat⟩ := lk))
    have N4 := Lib.hid (N1.out.trans (NV.out.trans (New.undrew n4)))
    clear n4 hrun hat y0 y1 y3 d0 d1 d3
    go_wp2
    go_ret2
    rw [ZE.out]
    exact ⟨rfl, N4.out⟩
  · have ZE := Lib.hid (show z = (false, false) from by rw [HZ.out, isrM_no hc])
    clear hc
    unfold noneS
    go_wp2
    go_ret2
    rw [ZE.out]
    exact ⟨rfl, N1.out.alloc _⟩
end Go.Proofs.Ytjailklnagfglaa
