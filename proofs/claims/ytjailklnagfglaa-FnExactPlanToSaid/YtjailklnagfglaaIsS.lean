/- Whether vessels reach others, the model's. -/
import Derived.Test.YtjailklnagfglaaSizes
namespace Go.Proofs.Ytjailklnagfglaa
open Go.RowKit Go.Maps

def btwB (S H T K : List Int) (cl : Bool) : Bool := sizB S H T K && fewB S H cl 3000
def isrM (S H T K : List Int) (cl : Bool) : Bool × Bool := if btwB S H T K cl = true then (nHas (endN S H cl 3000) K, true) else (false, false)
theorem isrM_yes {S H T K : List Int} {cl : Bool} (h : btwB S H T K cl = true) : isrM S H T K cl = (nHas (endN S H cl 3000) K, true) := by simp [isrM, h]
theorem isrM_no {S H T K : List Int} {cl : Bool} (h : btwB S H T K cl = false) : isrM S H T K cl = (false, false) := by simp [isrM, h]
theorem btwB_no1 {S H T K : List Int} {cl : Bool} (h : sizB S H T K = false) : btwB S H T K cl = false := by unfold btwB; rw [h, Bool.false_and]
theorem btwG {S H T K : List Int} {cl : Bool} {most : Nat} (h1 : sizB S H T K = true) : (sizB S H T K && fewB S H cl most) = fewB S H cl most := by rw [h1, Bool.true_and]
theorem btwB_eq {S H T K : List Int} {cl : Bool} (h1 : sizB S H T K = true) : btwB S H T K cl = fewB S H cl 3000 := btwG (most := 3000) h1
theorem few_found {S H : List Int} {cl : Bool} {most : Nat} (hg : Good S H) (h : fewB S H cl most = true) : Found S H (endN S H cl most) ∧ (endN S H cl most).length ≤ most := ⟨endN_found cl most hg, few_len h⟩

set_option maxRecDepth 100000 in
set_option maxHeartbeats 4000000 in
theorem sIsReached_any (w : World) (aa ab ba bb : Option Addr) (n m p q ca cb cc cd : Nat) (S H T K : List Int) (cl : Bool) (h1 : Ints w aa n ca S) (h2 : Ints w ab m cb H) (h3 : Ints w ba p cc T) (h4 : Ints w bb q cd K) :
    Calls Try.prog 15 #[.agg #[.slice aa n ca, .slice ab m cb], .agg #[.slice ba p cc, .slice bb q cd], .bool cl] w fun e w' => e = .returned (.tuple #[.bool (isrM S H T K cl).1, .bool (isrM S H T K cl).2]) ∧ New w w' := by
  have HA := Lib.hid h1; clear h1
  have HB := Lib.hid h2; clear h2
  have HC := Lib.hid h3; clear h3
  have HD := Lib.hid h4; clear h4
  obtain ⟨z, hz⟩ : ∃ z, z = isrM S H T K cl := ⟨_, rfl⟩
  rw [← hz]
  have HZ := Lib.hid hz; clear hz
  cases hs : sizB S H T K
  case false =>
    have ZE := Lib.hid (show z = (false, false) from by rw [HZ.out, isrM_no (btwB_no1 hs)])
    have HS := Lib.hid hs; clear hs
    go_enter Try.func15, Try.ntmps15
    go_wp2_with fail
    refine (plSizes_any _ _ _ _ _ _ _ _ _ _ _ _ _ S H T K (HA.out.new (by repeat (first | with_reducible exact New.refl _ | with_reducible assumption | refine New.drewN ?_ _ | refine New.drew ?_ | refine New.alloc ?_ _ | refine New.setCell ?_ (by first | omega | (simp; omega) | (simp; done)) _ | (refine New.trans ?_ (by assumption))))) (HB.out.new (by repeat (first | with_reducible exact New.refl _ | with_reducible assumption | refine New.drewN ?_ _ | refine New.drew ?_ | refine New.alloc ?_ _ | refine New.setCell ?_ (by first | omega | (simp; omega) | (simp; done)) _ | (refine New.trans ?_ (by assumption))))) (HC.out.new (by repeat (first | with_reducible exact New.refl _ | with_reducible assumption | refine New.drewN ?_ _ | refine New.drew ?_ | refine New.alloc ?_ _ | refine New.setCell ?_ (by first | omega | (simp; omega) | (simp; done)) _ | (refine New.trans ?_ (by assumption))))) (HD.out.new (by repeat (first | with_reducible exact New.refl _ | with_reducible assumption | refine New.drewN ?_ _ | refine New.drew ?_ | refine New.alloc ?_ _ | refine New.setCell ?_ (by first | omega | (simp; omega) | (simp; done)) _ | (refine New.trans ?_ (by assumption)))))).mono ?_
    rintro e w1 ⟨rfl, n1⟩
    rw [HS.out]
    have N1 := Lib.hid (show New w w1 from New.trans (by repeat (first | with_reducible exact New.refl _ | with_reducible assumption | refine New.drewN ?_ _ | refine New.drew ?_ | refine New.alloc ?_ _ | refine New.setCell ?_ (by first | omega | (simp; omega) | (simp; done)) _ | (refine New.trans ?_ (by assumption)))) n1); clear n1
    go_wp2
    go_ret2
    rw [ZE.out]
    exact ⟨rfl, N1.out⟩
  case true =>
    obtain ⟨hG, hG2, hST⟩ := sizB_iff.1 hs
    have HS := Lib.hid hs
    have HG := Lib.hid hG
    have KL := Lib.hid (show K.length = S.length from by rw [hG2.2.1, hST])
    have HE := Lib.hid (btwB_eq (cl := cl) hs)
    clear hs hG hG2 hST
    go_enter Try.func15, Try.ntmps15
    go_wp2_with fail
    refine (plSizes_any _ _ _ _ _ _ _ _ _ _ _ _ _ S H T K (HA.out.new (by repeat (first | with_reducible exact New.refl _ | with_reducible assumption | refine New.drewN ?_ _ | refine New.drew ?_ | refine New.alloc ?_ _ | refine New.setCell ?_ (by first | omega | (simp; omega) | (simp; done)) _ | (refine New.trans ?_ (by assumption))))) (HB.out.new (by repeat (first | with_reducible exact New.refl _ | with_reducible assumption | refine New.drewN ?_ _ | refine New.drew ?_ | refine New.alloc ?_ _ | refine New.setCell ?_ (by first | omega | (simp; omega) | (simp; done)) _ | (refine New.trans ?_ (by assumption))))) (HC.out.new (by repeat (first | with_reducible exact New.refl _ | with_reducible assumption | refine New.drewN ?_ _ | refine New.drew ?_ | refine New.alloc ?_ _ | refine New.setCell ?_ (by first | omega | (simp; omega) | (simp; done)) _ | (refine New.trans ?_ (by assumption))))) (HD.out.new (by repeat (first | with_reducible exact New.refl _ | with_reducible assumption | refine New.drewN ?_ _ | refine New.drew ?_ | refine New.alloc ?_ _ | refine New.setCell ?_ (by first | omega | (simp; omega) | (simp; done)) _ | (refine New.trans ?_ (by assumption)))))).mono ?_
    rintro e w1 ⟨rfl, n1⟩
    rw [HS.out]
    have a0 : w1.cell? ⟨w.heap.size, 0, none⟩ = some (.slice aa n ca) := n1.cell (by simp [go_sem])
    have a1 : w1.cell? ⟨w.heap.size, 1, none⟩ = some (.slice ab m cb) := n1.cell (by simp [go_sem])
    have b0 : w1.cell? ⟨w.heap.size + 1, 0, none⟩ = some (.slice ba p cc) := n1.cell (by simp [go_sem])
    have b1 : w1.cell? ⟨w.heap.size + 1, 1, none⟩ = some (.slice bb q cd) := n1.cell (by simp [go_sem])
    have N1 := Lib.hid (show New w w1 from New.trans (by repeat (first | with_reducible exact New.refl _ | with_reducible assumption | refine New.drewN ?_ _ | refine New.drew ?_ | refine New.alloc ?_ _ | refine New.setCell ?_ (by first | omega | (simp; omega) | (simp; done)) _ | (refine New.trans ?_ (by assumption)))) n1); clear n1
    go_wp2_with fail
    refine (plAll_any _ _ _ _ _ _ _ S H cl (HA.out.new N1.out) (HB.out.new N1.out) HG.out).mono ?_
    intro e w2 hp
    obtain ⟨n2, h2⟩ := hp.parts
    clear hp
    replace b0 := n2.cell b0
    replace b1 := n2.cell b1
    have N2 := Lib.hid (N1.out.trans n2)
    clear a0 a1 n2
    rcases h2 with ⟨hf, E, hE, R, base, O, va, vf, vm, vr, vo, P, Q, rfl, rc⟩ | ⟨hf, R, rfl⟩
    · have ff := few_found HG.out hf
      have ZE := Lib.hid (show z = (nHas E K, true) from by rw [HZ.out, isrM_yes (by rw [HE.out]; exact hf), hE])
      rw [← hE] at ff
      have FF := Lib.hid ff
      have RD := Lib.hid (rc.read ff.1.pos)
      have RO := Lib.hid rc.ord
      clear hf hE rc ff
      go_wp2_with fail
      refine (plPlace_any _ R S H E O _ _ _ _ _ _ K RD.out (HD.out.new N2.out) KL.out FF.out.1 RO.out (by have := FF.out.2; omega)).mono ?_
      rintro e w3 ⟨at', rfl, _, n3⟩
      have N3 := Lib.hid (N2.out.trans n3); clear n3
      go_wp2
      go_ret2
      rw [ZE.out]
      exact ⟨rfl, N3.out⟩
    · have ZE := Lib.hid (show z = (false, false) from by rw [HZ.out, isrM_no (by rw [HE.out]; exact hf)])
      clear hf
      go_wp2
      go_ret2
      rw [ZE.out]
      exact ⟨rfl, N2.out⟩
end Go.Proofs.Ytjailklnagfglaa
