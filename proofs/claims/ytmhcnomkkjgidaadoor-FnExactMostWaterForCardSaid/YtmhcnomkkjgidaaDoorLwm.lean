/- The least and the most water for so many ships up and down, the model's and the program's. -/
import Derived.Test.YtmhcnomkkjgidaaDoorTop
import Derived.Test.YtmhcnomkkjgidaaDoorWus
import Derived.BigQuiet
import Derived.Deep.RegionWith
namespace Go.Proofs.YtmhcnomkkjgidaaDoor
open Go.RowKit

def lwM (L : List Int) (F : List Bool) (x y : Int) : Int := if ltB L F x y = true then (L[L.length - 1]?.getD 0) * (tblN (F[L.length - 1]?.getD false) x.toNat y.toNat : Nat) else 0
/-- How often, at most, the highest chamber is filled. -/
def mxN (full : Bool) (u d : Nat) : Nat := u + d - (if full = true ∧ 0 < d then 1 else 0)
def mwM (L : List Int) (F : List Bool) (x y : Int) : Int := if ltB L F x y = true then (L[L.length - 1]?.getD 0) * (mxN (F[L.length - 1]?.getD false) x.toNat y.toNat : Nat) else 0
theorem lwM_no {L : List Int} {F : List Bool} {x y : Int} (h : ltB L F x y = false) : lwM L F x y = 0 := by unfold lwM; rw [if_neg (by rw [h]; decide)]
theorem mwM_no {L : List Int} {F : List Bool} {x y : Int} (h : ltB L F x y = false) : mwM L F x y = 0 := by unfold mwM; rw [if_neg (by rw [h]; decide)]
theorem lt_eq {L : List Int} {F : List Bool} {x y : Int} (h : ltB L F x y = true) : usB L F (ltM L F x y) = true ∧ wusM L F (ltM L F x y) = lwM L F x y := by
  obtain ⟨hf, u, d, rfl, rfl, hu, hd⟩ := ltB_parts h
  have hs : usB L F (ltM L F (u : Int) (d : Int)) = true := usB_iff.2 ⟨hf, ltM_tr h⟩
  refine ⟨hs, ?_⟩
  rw [wus_top hs]
  unfold lwM
  rw [if_pos h]
  have e : (ltM L F (u : Int) (d : Int)).data.toList = gtL (u + d) (F[L.length - 1]?.getD false) u d := by
    unfold ltM; rw [if_pos h, gtA_list]; rfl
  rw [e, gt_top _ _ _ _ rfl]
  rfl
def dnT (d : Nat) : ByteArray := ⟨(Lib.repeatL [100] d).toArray⟩
def upT (u : Nat) : ByteArray := ⟨(Lib.repeatL [117] u).toArray⟩
theorem dnT_size (d : Nat) : (dnT d).size = d := by
  show (Lib.repeatL [100] d).length = d
  rw [Lib.repeatL_length]; simp
theorem upT_size (d : Nat) : (upT d).size = d := by
  show (Lib.repeatL [117] d).length = d
  rw [Lib.repeatL_length]; simp
theorem cat_eq (u d : Nat) : dnT d ++ upT u = ⟨(mxL u d).toArray⟩ := by
  refine ByteArray.ext (Array.ext' ?_)
  simp [dnT, upT, mxL]
theorem mx_eq {L : List Int} {F : List Bool} {u d : Nat} (hu : u ≤ 10) (hd : d ≤ 10) : usB L F (dnT d ++ upT u) = ltB L F (u : Int) (d : Int) ∧ wusM L F (dnT d ++ upT u) = mwM L F (u : Int) (d : Int) := by
  rw [cat_eq]
  have ht := mx_tr u d (by omega)
  have hb : ltB L F (u : Int) (d : Int) = fliB L F := by
    unfold ltB
    rw [inB_iff.2 (show (0 : Int) ≤ (u : Int) ∧ (u : Int) ≤ 10 by omega), inB_iff.2 (show (0 : Int) ≤ (d : Int) ∧ (d : Int) ≤ 10 by omega)]
    simp
  have hs : usB L F ⟨(mxL u d).toArray⟩ = fliB L F := by unfold usB; rw [ht]; simp
  refine ⟨hs.trans hb.symm, ?_⟩
  cases hf : fliB L F
  · rw [wusM_no (hs.trans hf), mwM_no (hb.trans hf)]
  · rw [wus_top (hs.trans hf)]
    unfold mwM
    rw [if_pos (hb.trans hf)]
    show _ * ((topN _ (mxL u d) : Nat) : Int) = _
    rw [mx_top]
    rfl
theorem loTableQ (w : World) (full : Bool) (u d q : Nat) (hq : q = tblN full u d) (hu : u ≤ 10) (hd : d ≤ 10) :
    Calls Tryd.prog 47 #[.bool full, .int .i64 u, .int .i64 d] w fun e w' => e = .returned (.int .i64 (q : Nat)) ∧ w' = w := by
  subst hq
  exact (loTable_any w full u d hu hd).mono fun e w' h => ⟨h.1, h.2.symm⟩
theorem mxN_le (full : Bool) (u d : Nat) : mxN full u d ≤ u + d := by unfold mxN; split <;> omega
theorem rep_down (w : World) (d : Nat) (hd : d ≤ 10) : Calls Tryd.prog 50 #[.string ⟨#[100]⟩, .int .i64 d] w fun e w' => e = .returned (.string (dnT d)) ∧ New w w' :=
  Tryd.strings_Repeat ⟨#[100]⟩ d w (by omega) (by show 1 * d ≤ _; omega)
theorem rep_up (w : World) (d : Nat) (hd : d ≤ 10) : Calls Tryd.prog 50 #[.string ⟨#[117]⟩, .int .i64 d] w fun e w' => e = .returned (.string (upT d)) ∧ New w w' :=
  Tryd.strings_Repeat ⟨#[117]⟩ d w (by omega) (by show 1 * d ≤ _; omega)

set_option maxRecDepth 100000 in
set_option maxHeartbeats 1000000 in
theorem sLeastWaterFor_any (w : World) (aa ab : Option Addr) (n m ca cb : Nat) (L : List Int) (F : List Bool) (x y : Int) (h1 : Ints w aa n ca L) (h2 : Bools w ab m cb F) :
    Calls Tryd.prog 28 #[.agg #[.slice aa n ca, .slice ab m cb], .int .i64 x, .int .i64 y] w fun e w' => e = .returned (.tuple #[.int .i64 (lwM L F x y), .bool (ltB L F x y)]) ∧ New w w' := by
  have hn := h1.len
  have hm := h2.len
  have HA := Lib.hid h1; clear h1
  have HB := Lib.hid h2; clear h2
  cases hg : ltB L F x y
  case false =>
    rw [lwM_no hg]
    have HG := Lib.hid hg; clear hg hn hm
    go_enter Tryd.func28, Tryd.ntmps28
    go_wp2_with fail
    refine (loNumbers_any _ _ _ _ _ _ _ L F x y (HA.out.new (by repeat (first | with_reducible exact New.refl _ | with_reducible assumption | refine New.drewN ?_ _ | refine New.drew ?_ | refine New.alloc ?_ _ | refine New.setCell ?_ (by first | omega | (simp; omega) | (simp; done)) _ | (refine New.trans ?_ (by assumption))))) (HB.out.new (by repeat (first | with_reducible exact New.refl _ | with_reducible assumption | refine New.drewN ?_ _ | refine New.drew ?_ | refine New.alloc ?_ _ | refine New.setCell ?_ (by first | omega | (simp; omega) | (simp; done)) _ | (refine New.trans ?_ (by assumption)))))).mono ?_
    rintro e w1 ⟨rfl, n1⟩
    rw [HG.out]
    go_wp2
    go_ret2
    exact ⟨rfl, New.trans (by repeat (first | with_reducible exact New.refl _ | with_reducible assumption | refine New.drewN ?_ _ | refine New.drew ?_ | refine New.alloc ?_ _ | refine New.setCell ?_ (by first | omega | (simp; omega) | (simp; done)) _ | (refine New.trans ?_ (by assumption)))) n1⟩
  case true =>
    obtain ⟨hf, u0, d0, rfl, rfl, hu, hd⟩ := ltB_parts hg
    obtain ⟨⟨hl1, hl6⟩, hl2, hlb⟩ := fliB_iff.1 hf
    obtain ⟨k, hk⟩ : ∃ k, n = k + 1 := ⟨n - 1, by omega⟩
    obtain ⟨t, ht⟩ : ∃ t, t = L[k]?.getD 0 := ⟨_, rfl⟩
    obtain ⟨f0, hf0⟩ : ∃ b, b = F[k]?.getD false := ⟨_, rfl⟩
    have hlk := hlb k (by omega)
    rw [← ht] at hlk
    obtain rfl : m = k + 1 := by omega
    subst hk
    have k6 : k ≤ 5 := by omega
    obtain ⟨q, hq⟩ : ∃ q, q = tblN f0 u0 d0 := ⟨_, rfl⟩
    have hq20 : q ≤ 20 := by rw [hq]; unfold tblN; omega
    have hm2 := times_small (t := t) (c := q) (by omega) hlk.2 (by omega)
    have hwr : IntKind.i64.wrap (t * (q : Int)) = t * (q : Int) := IntWalk.i64_in _ (by omega)
    have HR := Lib.hid (show lwM L F u0 d0 = t * (q : Int) by
      unfold lwM; rw [if_pos hg, ← hn]
      show (L[k]?.getD 0) * ((tblN (F[k]?.getD false) u0 d0 : Nat) : Int) = _
      rw [← ht, ← hf0, ← hq])
    rw [HR.out]
    have HQ := Lib.hid hq; clear hq
    have HG := Lib.hid hg; clear hg hm2 hlk
    obtain ⟨ba, oa, rfl, ga, za⟩ := HA.out.at (j := k) (by omega)
    obtain ⟨bb, ob, rfl, gb, zb⟩ := HB.out.at (j := k) (by omega)
    rw [← hf0] at gb
    rw [← ht] at ga
    clear hf0 ht hl1 hl6 hl2 hlb hn hm hf
    go_enter Tryd.func28, Tryd.ntmps28
    go_wp2_with fail
    refine (loNumbers_any _ _ _ _ _ _ _ L F _ _ (HA.out.new (by repeat (first | with_reducible exact New.refl _ | with_reducible assumption | refine New.drewN ?_ _ | refine New.drew ?_ | refine New.alloc ?_ _ | refine New.setCell ?_ (by first | omega | (simp; omega) | (simp; done)) _ | (refine New.trans ?_ (by assumption))))) (HB.out.new (by repeat (first | with_reducible exact New.refl _ | with_reducible assumption | refine New.drewN ?_ _ | refine New.drew ?_ | refine New.alloc ?_ _ | refine New.setCell ?_ (by first | omega | (simp; omega) | (simp; done)) _ | (refine New.trans ?_ (by assumption)))))).mono ?_
    rintro e w1 ⟨rfl, n1⟩
    have c0 : w1.cell? ⟨w.heap.size, 0, none⟩ = some (.slice (some ⟨ba, oa, none⟩) (k + 1) ca) := n1.cell (by simp [go_sem])
    have c1 : w1.cell? ⟨w.heap.size, 1, none⟩ = some (.slice (some ⟨bb, ob, none⟩) (k + 1) cb) := n1.cell (by simp [go_sem])
    have N1 := Lib.hid (show New w w1 from New.trans (by repeat (first | with_reducible exact New.refl _ | with_reducible assumption | refine New.drewN ?_ _ | refine New.drew ?_ | refine New.alloc ?_ _ | refine New.setCell ?_ (by first | omega | (simp; omega) | (simp; done)) _ | (refine New.trans ?_ (by assumption)))) n1); clear n1
    rw [HG.out]
    have ga1 := N1.out.cell ga
    have gb1 := N1.out.cell gb
    clear ga gb za zb
    go_upto_region 4 with fail
    go_quiet ((go_at_call 47; exact Calls.quiet_of_same (loTableQ _ f0 u0 d0 q HQ.out hu hd)))
    go_wp2
    go_ret2
    exact ⟨rfl, New.drewN N1.out _⟩

set_option maxRecDepth 100000 in
set_option maxHeartbeats 1000000 in
theorem sMostWaterFor_any (w : World) (aa ab : Option Addr) (n m ca cb : Nat) (L : List Int) (F : List Bool) (x y : Int) (h1 : Ints w aa n ca L) (h2 : Bools w ab m cb F) :
    Calls Tryd.prog 30 #[.agg #[.slice aa n ca, .slice ab m cb], .int .i64 x, .int .i64 y] w fun e w' => e = .returned (.tuple #[.int .i64 (mwM L F x y), .bool (ltB L F x y)]) ∧ New w w' := by
  have hn := h1.len
  have hm := h2.len
  have HA := Lib.hid h1; clear h1
  have HB := Lib.hid h2; clear h2
  cases hg : ltB L F x y
  case false =>
    rw [mwM_no hg]
    have HG := Lib.hid hg; clear hg hn hm
    go_enter Tryd.func30, Tryd.ntmps30
    go_wp2_with fail
    refine (loNumbers_any _ _ _ _ _ _ _ L F x y (HA.out.new (by repeat (first | with_reducible exact New.refl _ | with_reducible assumption | refine New.drewN ?_ _ | refine New.drew ?_ | refine New.alloc ?_ _ | refine New.setCell ?_ (by first | omega | (simp; omega) | (simp; done)) _ | (refine New.trans ?_ (by assumption))))) (HB.out.new (by repeat (first | with_reducible exact New.refl _ | with_reducible assumption | refine New.drewN ?_ _ | refine New.drew ?_ | refine New.alloc ?_ _ | refine New.setCell ?_ (by first | omega | (simp; omega) | (simp; done)) _ | (refine New.trans ?_ (by assumption)))))).mono ?_
    rintro e w1 ⟨rfl, n1⟩
    rw [HG.out]
    go_wp2
    go_ret2
    exact ⟨rfl, New.trans (by repeat (first | with_reducible exact New.refl _ | with_reducible assumption | refine New.drewN ?_ _ | refine New.drew ?_ | refine New.alloc ?_ _ | refine New.setCell ?_ (by first | omega | (simp; omega) | (simp; done)) _ | (refine New.trans ?_ (by assumption)))) n1⟩
  case true =>
    obtain ⟨hf, u0, d0, rfl, rfl, hu, hd⟩ := ltB_parts hg
    obtain ⟨⟨hl1, hl6⟩, hl2, hlb⟩ := fliB_iff.1 hf
    obtain ⟨k, hk⟩ : ∃ k, n = k + 1 := ⟨n - 1, by omega⟩
    obtain ⟨t, ht⟩ : ∃ t, t = L[k]?.getD 0 := ⟨_, rfl⟩
    obtain ⟨f0, hf0⟩ : ∃ b, b = F[k]?.getD false := ⟨_, rfl⟩
    have hlk := hlb k (by omega)
    rw [← ht] at hlk
    obtain rfl : m = k + 1 := by omega
    subst hk
    have k6 : k ≤ 5 := by omega
    have hws : IntKind.i64.wrap ((u0 : Int) + (d0 : Int)) = ((u0 + d0 : Nat) : Int) := (IntWalk.i64_in _ (by omega)).trans (by omega)
    obtain ⟨q, hq⟩ : ∃ q, q = mxN f0 u0 d0 := ⟨_, rfl⟩
    have hq20 : q ≤ 20 := by have := mxN_le f0 u0 d0; omega
    have hm2 := times_small (t := t) (c := q) (by omega) hlk.2 (by omega)
    have hwr : IntKind.i64.wrap (t * (q : Int)) = t * (q : Int) := IntWalk.i64_in _ (by omega)
    have HR := Lib.hid (show mwM L F u0 d0 = t * (q : Int) by
      unfold mwM; rw [if_pos hg, ← hn]
      show (L[k]?.getD 0) * ((mxN (F[k]?.getD false) u0 d0 : Nat) : Int) = _
      rw [← ht, ← hf0, ← hq])
    rw [HR.out]
    have hm3 := times_small (t := t) (c := u0 + d0) (by omega) hlk.2 (by omega)
    rw [show ((u0 + d0 : Nat) : Int) = (u0 : Int) + (d0 : Int) from by omega] at hm3
    have hwr4 : IntKind.i64.wrap (t * ((u0 : Int) + (d0 : Int))) = t * ((u0 : Int) + (d0 : Int)) := IntWalk.i64_in _ (by omega)
    have HG := Lib.hid hg; clear hg
    obtain ⟨ba, oa, rfl, ga, za⟩ := HA.out.at (j := k) (by omega)
    obtain ⟨bb, ob, rfl, gb, zb⟩ := HB.out.at (j := k) (by omega)
    rw [← hf0] at gb
    rw [← ht] at ga
    clear hf0 ht hl1 hl6 hl2 hlb hn hm hf
    go_enter Tryd.func30, Tryd.ntmps30
    go_wp2_with fail
    refine (loNumbers_any _ _ _ _ _ _ _ L F _ _ (HA.out.new (by repeat (first | with_reducible exact New.refl _ | with_reducible assumption | refine New.drewN ?_ _ | refine New.drew ?_ | refine New.alloc ?_ _ | refine New.setCell ?_ (by first | omega | (simp; omega) | (simp; done)) _ | (refine New.trans ?_ (by assumption))))) (HB.out.new (by repeat (first | with_reducible exact New.refl _ | with_reducible assumption | refine New.drewN ?_ _ | refine New.drew ?_ | refine New.alloc ?_ _ | refine New.setCell ?_ (by first | omega | (simp; omega) | (simp; done)) _ | (refine New.trans ?_ (by assumption)))))).mono ?_
    rintro e w1 ⟨rfl, n1⟩
    have c0 : w1.cell? ⟨w.heap.size, 0, none⟩ = some (.slice (some ⟨ba, oa, none⟩) (k + 1) ca) := n1.cell (by simp [go_sem])
    have c1 : w1.cell? ⟨w.heap.size, 1, none⟩ = some (.slice (some ⟨bb, ob, none⟩) (k + 1) cb) := n1.cell (by simp [go_sem])
    have N1 := Lib.hid (show New w w1 from New.trans (by repeat (first | with_reducible exact New.refl _ | with_reducible assumption | refine New.drewN ?_ _ | refine New.drew ?_ | refine New.alloc ?_ _ | refine New.setCell ?_ (by first | omega | (simp; omega) | (simp; done)) _ | (refine New.trans ?_ (by assumption)))) n1); clear n1
    rw [HG.out]
    have ga1 := N1.out.cell ga
    have gb1 := N1.out.cell gb
    clear ga gb za zb
    clear hm2 hlk
    by_cases hd0 : 0 < d0
    · have hdI : (0 : Int) < (d0 : Int) := by omega
      cases f0
      · have hqq : q = u0 + d0 := by rw [hq]; unfold mxN; simp
        subst hqq
        clear hq
        go_wp2
        go_ret2
        exact ⟨rfl, N1.out⟩
      · have hqq : u0 + d0 = q + 1 := by rw [hq]; unfold mxN; simp [hd0]; omega
        have hws2 : IntKind.i64.wrap ((u0 : Int) + (d0 : Int) - 1) = (q : Int) := (IntWalk.i64_in _ (by omega)).trans (by omega)
        have hws3 : (u0 : Int) + (d0 : Int) - 1 = (q : Int) := by omega
        clear hq
        go_wp2
        go_ret2
        refine ⟨?_, N1.out⟩
        first | rfl | (rw [← hws3]; rfl)
    · have hdI : ¬ (0 : Int) < (d0 : Int) := by omega
      have hqq : q = u0 + d0 := by rw [hq]; unfold mxN; simp [hd0]
      subst hqq
      clear hq
      cases f0
      · go_wp2
        go_ret2
        exact ⟨rfl, N1.out⟩
      · go_wp2
        go_ret2
        exact ⟨rfl, N1.out⟩

set_option maxRecDepth 100000 in
set_option maxHeartbeats 1000000 in
theorem iLeastWaterFor_any (w : World) (aa ab : Option Addr) (n m ca cb : Nat) (L : List Int) (F : List Bool) (x y : Int) (h1 : Ints w aa n ca L) (h2 : Bools w ab m cb F) :
    Calls Tryd.prog 29 #[.agg #[.slice aa n ca, .slice ab m cb], .int .i64 x, .int .i64 y] w fun e w' => e = .returned (.tuple #[.int .i64 (lwM L F x y), .bool (ltB L F x y)]) ∧ New w w' := by
  have HA := Lib.hid h1; clear h1
  have HB := Lib.hid h2; clear h2
  cases hg : ltB L F x y
  case false =>
    rw [lwM_no hg]
    have HG := Lib.hid hg; clear hg
    go_enter Tryd.func29, Tryd.ntmps29
    go_wp2_with fail
    refine (iLeastTraffic_any _ _ _ _ _ _ _ L F x y (HA.out.new (by repeat (first | with_reducible exact New.refl _ | with_reducible assumption | refine New.drewN ?_ _ | refine New.drew ?_ | refine New.alloc ?_ _ | refine New.setCell ?_ (by first | omega | (simp; omega) | (simp; done)) _ | (refine New.trans ?_ (by assumption))))) (HB.out.new (by repeat (first | with_reducible exact New.refl _ | with_reducible assumption | refine New.drewN ?_ _ | refine New.drew ?_ | refine New.alloc ?_ _ | refine New.setCell ?_ (by first | omega | (simp; omega) | (simp; done)) _ | (refine New.trans ?_ (by assumption)))))).mono ?_
    rintro e w1 ⟨rfl, n1⟩
    rw [HG.out]
    go_wp2
    go_ret2
    exact ⟨rfl, New.trans (by repeat (first | with_reducible exact New.refl _ | with_reducible assumption | refine New.drewN ?_ _ | refine New.drew ?_ | refine New.alloc ?_ _ | refine New.setCell ?_ (by first | omega | (simp; omega) | (simp; done)) _ | (refine New.trans ?_ (by assumption)))) n1⟩
  case true =>
    have hq := lt_eq hg
    have hsz := trB_le (ltM_tr hg)
    obtain ⟨T, hT⟩ : ∃ T, T = ltM L F x y := ⟨_, rfl⟩
    rw [← hT] at hq hsz
    rw [← hq.2]
    have HQ := Lib.hid hq; clear hq
    have HT := Lib.hid hT; clear hT
    have HG := Lib.hid hg; clear hg
    go_enter Tryd.func29, Tryd.ntmps29
    go_wp2_with fail
    refine (iLeastTraffic_any _ _ _ _ _ _ _ L F x y (HA.out.new (by repeat (first | with_reducible exact New.refl _ | with_reducible assumption | refine New.drewN ?_ _ | refine New.drew ?_ | refine New.alloc ?_ _ | refine New.setCell ?_ (by first | omega | (simp; omega) | (simp; done)) _ | (refine New.trans ?_ (by assumption))))) (HB.out.new (by repeat (first | with_reducible exact New.refl _ | with_reducible assumption | refine New.drewN ?_ _ | refine New.drew ?_ | refine New.alloc ?_ _ | refine New.setCell ?_ (by first | omega | (simp; omega) | (simp; done)) _ | (refine New.trans ?_ (by assumption)))))).mono ?_
    rw [← HT.out, HG.out]
    rintro e w1 ⟨rfl, n1⟩
    have c0 : w1.cell? ⟨w.heap.size, 0, none⟩ = some (.slice aa n ca) := n1.cell (by simp [go_sem])
    have c1 : w1.cell? ⟨w.heap.size, 1, none⟩ = some (.slice ab m cb) := n1.cell (by simp [go_sem])
    have N1 := Lib.hid (show New w w1 from New.trans (by repeat (first | with_reducible exact New.refl _ | with_reducible assumption | refine New.drewN ?_ _ | refine New.drew ?_ | refine New.alloc ?_ _ | refine New.setCell ?_ (by first | omega | (simp; omega) | (simp; done)) _ | (refine New.trans ?_ (by assumption)))) n1); clear n1
    go_wp2_with fail
    refine (iWaterUsed_any _ _ _ _ _ _ _ L F T (by omega) (HA.out.new N1.out) (HB.out.new N1.out)).mono ?_
    rw [HQ.out.1]
    rintro e w2 ⟨rfl, n2⟩
    have N2 := Lib.hid (N1.out.trans n2); clear n2 c0 c1
    go_wp2
    go_ret2
    exact ⟨rfl, N2.out⟩

set_option maxRecDepth 100000 in
set_option maxHeartbeats 1000000 in
theorem iMostWaterFor_any (w : World) (aa ab : Option Addr) (n m ca cb : Nat) (L : List Int) (F : List Bool) (x y : Int) (h1 : Ints w aa n ca L) (h2 : Bools w ab m cb F) :
    Calls Tryd.prog 31 #[.agg #[.slice aa n ca, .slice ab m cb], .int .i64 x, .int .i64 y] w fun e w' => e = .returned (.tuple #[.int .i64 (mwM L F x y), .bool (ltB L F x y)]) ∧ New w w' := by
  have HA := Lib.hid h1; clear h1
  have HB := Lib.hid h2; clear h2
  cases hx : inB 0 10 x
  case false =>
    have g : ltB L F x y = false := by unfold ltB; rw [hx]; simp
    rw [g, mwM_no g]
    clear g
    have HX := Lib.hid hx; clear hx
    go_enter Tryd.func31, Tryd.ntmps31
    go_wp2_with fail
    refine (isOneWay_any _ _).mono ?_
    rintro e w1 ⟨rfl, n1⟩
    subst n1
    rw [HX.out]
    go_wp2
    go_ret2
    exact ⟨rfl, (by repeat (first | with_reducible exact New.refl _ | with_reducible assumption | refine New.drewN ?_ _ | refine New.drew ?_ | refine New.alloc ?_ _ | refine New.setCell ?_ (by first | omega | (simp; omega) | (simp; done)) _ | (refine New.trans ?_ (by assumption))))⟩
  case true =>
   cases hy : inB 0 10 y
   case false =>
    have g : ltB L F x y = false := by unfold ltB; rw [hx, hy]; simp
    rw [g, mwM_no g]
    clear g
    have HX := Lib.hid hx; clear hx
    have HY := Lib.hid hy; clear hy
    go_enter Tryd.func31, Tryd.ntmps31
    go_wp2_with fail
    refine (isOneWay_any _ _).mono ?_
    rintro e w1 ⟨rfl, n1⟩
    subst n1
    rw [HX.out]
    go_wp2_with fail
    refine (isOneWay_any _ _).mono ?_
    rintro e w1 ⟨rfl, n1⟩
    subst n1
    rw [HY.out]
    go_wp2
    go_ret2
    exact ⟨rfl, (by repeat (first | with_reducible exact New.refl _ | with_reducible assumption | refine New.drewN ?_ _ | refine New.drew ?_ | refine New.alloc ?_ _ | refine New.setCell ?_ (by first | omega | (simp; omega) | (simp; done)) _ | (refine New.trans ?_ (by assumption))))⟩
   case true =>
    obtain ⟨u0, rfl⟩ : ∃ u : Nat, x = u := ⟨x.toNat, by have := inB_iff.1 hx; omega⟩
    obtain ⟨d0, rfl⟩ : ∃ d : Nat, y = d := ⟨y.toNat, by have := inB_iff.1 hy; omega⟩
    have hu : u0 ≤ 10 := by have := inB_iff.1 hx; omega
    have hd : d0 ≤ 10 := by have := inB_iff.1 hy; omega
    have hq := mx_eq (L := L) (F := F) hu hd
    rw [← hq.1, ← hq.2]
    clear hq
    have HX := Lib.hid hx; clear hx
    have HY := Lib.hid hy; clear hy
    have s1 := dnT_size d0
    have s2 := upT_size u0
    obtain ⟨A, hA⟩ : ∃ A, A = dnT d0 := ⟨_, rfl⟩
    obtain ⟨B, hB⟩ : ∃ B, B = upT u0 := ⟨_, rfl⟩
    rw [← hA] at s1 ⊢
    rw [← hB] at s2 ⊢
    have hsz : (A ++ B).size ≤ 1048576 := by rw [ByteArray.size_append]; omega
    have hcap : ¬ 9223372036854775807 < A.size + B.size := by omega
    have EA := Lib.hid hA; clear hA
    have EB := Lib.hid hB; clear hB
    go_enter Tryd.func31, Tryd.ntmps31
    go_wp2_with fail
    refine (isOneWay_any _ _).mono ?_
    rintro e w1 ⟨rfl, n1⟩
    subst n1
    rw [HX.out]
    go_wp2_with fail
    refine (isOneWay_any _ _).mono ?_
    rintro e w1 ⟨rfl, n1⟩
    subst n1
    rw [HY.out]
    go_upto_region 3 with fail
    obtain ⟨v0, hv0⟩ : ∃ v, v = w.alloc (.cells #[.slice aa n ca, .slice ab m cb] 28) := ⟨_, rfl⟩
    rw [← hv0]
    have a0 : v0.cell? ⟨w.heap.size, 0, none⟩ = some (.slice aa n ca) := by rw [hv0]; simp [go_sem]
    have a1 : v0.cell? ⟨w.heap.size, 1, none⟩ = some (.slice ab m cb) := by rw [hv0]; simp [go_sem]
    have N0 := Lib.hid (show New w v0 by rw [hv0]; exact (by repeat (first | with_reducible exact New.refl _ | with_reducible assumption | refine New.drewN ?_ _ | refine New.drew ?_ | refine New.alloc ?_ _ | refine New.setCell ?_ (by first | omega | (simp; omega) | (simp; done)) _ | (refine New.trans ?_ (by assumption)))))
    clear hv0
    go_region_with (first
        | (go_at_call 50; with_reducible refine (rep_down _ d0 hd).mono ?_; rw [← EA.out]; rintro e w2 ⟨rfl, n2⟩; (try replace n2 := New.undrew n2); have b0 := n2.cell (by first | exact a0 | exact d0_); have b1 := n2.cell (by first | exact a1 | exact d1_))
        | (go_at_call 50; with_reducible refine (rep_up _ u0 hu).mono ?_; rw [← EB.out]; rintro e w3 ⟨rfl, n3⟩; (try replace n3 := New.undrew n3); have d0_ := n3.cell (by first | exact b0 | exact a0); have d1_ := n3.cell (by first | exact b1 | exact a1))
        | (go_at_call 25; refine (iWaterUsed_any _ _ _ _ _ _ _ L F (A ++ B) hsz (HA.out.new (N0.out.trans (by first | exact n2.trans n3 | exact n3.trans n2))) (HB.out.new (N0.out.trans (by first | exact n2.trans n3 | exact n3.trans n2)))).mono ?_; rintro e w4 ⟨rfl, n4⟩; have e0_ := n4.cell (by first | exact d0_ | exact b0); have e1_ := n4.cell (by first | exact d1_ | exact b1)))
    all_goals (go_wp2; go_ret2)
    all_goals exact ⟨rfl, N0.out.trans (by first | exact (n2.trans n3).trans n4 | exact (n3.trans n2).trans n4)⟩
end Go.Proofs.YtmhcnomkkjgidaaDoor
