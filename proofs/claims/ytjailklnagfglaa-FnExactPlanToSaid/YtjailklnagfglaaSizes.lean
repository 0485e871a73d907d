/- Vessels of the same sizes; whether one reaches the other. -/
import Derived.Test.YtjailklnagfglaaLayI
import Derived.Deep.RegionHeld3
namespace Go.Proofs.Ytjailklnagfglaa
open Go.RowKit Go.Maps

def sizB (S H T K : List Int) : Bool := goodB S H && goodB T K && decide (S = T)
theorem sizB_iff {S H T K : List Int} : sizB S H T K = true ↔ Good S H ∧ Good T K ∧ S = T := by
  unfold sizB
  rw [Bool.and_eq_true, Bool.and_eq_true, goodB_iff, goodB_iff, decide_eq_true_eq, and_assoc]
theorem sizB_no1 {S H T K : List Int} (h : goodB S H = false) : sizB S H T K = false := by unfold sizB; rw [h]; simp
theorem sizB_no2 {S H T K : List Int} (h : goodB T K = false) : sizB S H T K = false := by unfold sizB; rw [h]; simp
theorem sizB_no3 {S H T K : List Int} (h : S ≠ T) : sizB S H T K = false := by unfold sizB; rw [decide_eq_false h]; simp
theorem sizB_yes {S H T K : List Int} (h1 : goodB S H = true) (h2 : goodB T K = true) : sizB S H T K = decide (S = T) := by unfold sizB; rw [h1, h2]; simp
theorem ne_at {S T : List Int} {k : Nat} (h : S[k]?.getD 0 ≠ T[k]?.getD 0) : S ≠ T := fun e => h (by rw [e])

set_option maxRecDepth 100000 in
theorem equal_any (w : World) (aa ba : Option Addr) (n m ca cb : Nat) (S T : List Int) (h1 : Ints w aa n ca S) (h2 : Ints w ba m cb T) :
    Calls Try.prog 59 #[.slice aa n ca, .slice ba m cb] w fun e w' => e = .returned (.bool (decide (S = T))) ∧ New w w' := by
  have hn := h1.2.2.1
  have hm := h2.2.2.1
  have L1 := Lib.hid h1.1
  have L2 := Lib.hid h2.1
  have HA := Lib.hid h1; clear h1
  have HB := Lib.hid h2; clear h2
  by_cases hnm : n = m
  · subst hnm
    go_enter Try.func59, Try.ntmps59
    go_wp2
    go_loopw [13] (fun i wr => ∃ k : Nat, k ≤ n ∧ i = .int .i64 k ∧ New w wr ∧ ∀ j, j < k → S[j]?.getD 0 = T[j]?.getD 0) (fun i _ => n - (intOf i).toNat)
    case atStart => exact ⟨0, Nat.zero_le _, rfl, New.refl _, fun j hj => absurd hj (by omega)⟩
    case round =>
      obtain ⟨k, hk, rfl, hnw, hpre⟩ := hrel
      have NW := Lib.hid hnw; clear hnw
      have HP := Lib.hid hpre; clear hpre
      by_cases hlt : k < n
      · obtain ⟨b1, o1, rfl, g1, _⟩ := (HA.out.new NW.out).at hlt
        obtain ⟨b2, o2, rfl, g2, _⟩ := (HB.out.new NW.out).at hlt
        obtain ⟨x, hx⟩ : ∃ x, x = S[k]?.getD 0 := ⟨_, rfl⟩
        obtain ⟨y, hy⟩ : ∃ y, y = T[k]?.getD 0 := ⟨_, rfl⟩
        rw [← hx] at g1
        rw [← hy] at g2
        have E := Lib.hid (And.intro hx hy); clear hx hy
        have kI : (k : Int) < (n : Int) := by omega
        by_cases he : x = y
        · subst he
          go_wp2
          go_quiet (fail)
          go_wp2
          go_roundw
          case rel =>
            refine ⟨k + 1, by omega, by go_num, NW.out.trans ((New.refl _).drewN _), fun j hj => ?_⟩
            by_cases e : j = k
            · subst e; rw [← E.out.1, ← E.out.2]
            · exact HP.out j (by omega)
          case measure => simp [intOf]; omega
        · have hne : (x != y) = true := by simpa using he
          have NE := Lib.hid (ne_at (S := S) (T := T) (k := k) (by rw [← E.out.1, ← E.out.2]; exact he))
          go_wp2
          go_quiet (fail)
          go_wp2
          go_ret
          exact ⟨ret_bool (decide_eq_false NE.out).symm, NW.out.trans ((New.refl _).drewN _)⟩
      · obtain rfl : k = n := by omega
        have EE := Lib.hid (show S = T from ext_getD (by rw [← L1.out, ← L2.out]) fun j hj => HP.out j (by have := L1.out; omega))
        go_wp2
        go_ret
        exact ⟨ret_bool (decide_eq_true EE.out).symm, NW.out⟩
  · have NE := Lib.hid (show S ≠ T from fun e => hnm (by rw [L1.out, L2.out, e]))
    have hne : ((n : Int) != (m : Int)) = true := by simpa using fun e : (n : Int) = (m : Int) => hnm (by omega)
    go_enter Try.func59, Try.ntmps59
    go_wp2
    go_ret
    exact ⟨ret_bool (decide_eq_false NE.out).symm, New.refl _⟩

set_option maxRecDepth 100000 in
set_option maxHeartbeats 4000000 in
theorem plSizes_any (w : World) (aa ab ba bb : Option Addr) (n m p q ca cb cc cd : Nat) (S H T K : List Int) (h1 : Ints w aa n ca S) (h2 : Ints w ab m cb H) (h3 : Ints w ba p cc T) (h4 : Ints w bb q cd K) :
    Calls Try.prog 38 #[.agg #[.slice aa n ca, .slice ab m cb], .agg #[.slice ba p cc, .slice bb q cd]] w fun e w' => e = .returned (.bool (sizB S H T K)) ∧ New w w' := by
  have L1 := Lib.hid h1.1
  have L3 := Lib.hid h3.1
  have hn := h1.2.2.1
  have hp := h3.2.2.1
  have HA := Lib.hid h1; clear h1
  have HB := Lib.hid h2; clear h2
  have HC := Lib.hid h3; clear h3
  have HD := Lib.hid h4; clear h4
  by_cases hg : goodB S H = true
  · by_cases hg2 : goodB T K = true
    · have SY := Lib.hid (sizB_yes hg hg2)
      have HG := Lib.hid hg
      have HG2 := Lib.hid hg2
      clear hg hg2
      go_enter Try.func38, Try.ntmps38
      go_wp2_with fail
      refine (veGood_any _ _ _ _ _ _ _ _ _ (HA.out.new (by repeat (first | with_reducible exact New.refl _ | with_reducible assumption | refine New.drewN ?_ _ | refine New.drew ?_ | refine New.alloc ?_ _ | refine New.setCell ?_ (by first | omega | (simp; omega) | (simp; done)) _ | (refine New.trans ?_ (by assumption))))) (HB.out.new (by repeat (first | with_reducible exact New.refl _ | with_reducible assumption | refine New.drewN ?_ _ | refine New.drew ?_ | refine New.alloc ?_ _ | refine New.setCell ?_ (by first | omega | (simp; omega) | (simp; done)) _ | (refine New.trans ?_ (by assumption)))))).mono ?_
      rintro e w1 ⟨rfl, n1⟩
      rw [HG.out]
      have a0 : w1.cell? ⟨w.heap.size, 0, none⟩ = some (.slice aa n ca) := n1.cell (by simp [go_sem])
      have b0 : w1.cell? ⟨w.heap.size + 1, 0, none⟩ = some (.slice ba p cc) := n1.cell (by simp [go_sem])
      have b1 : w1.cell? ⟨w.heap.size + 1, 1, none⟩ = some (.slice bb q cd) := n1.cell (by simp [go_sem])
      have N1 := Lib.hid (show New w w1 from New.trans (by repeat (first | with_reducible exact New.refl _ | with_reducible assumption | refine New.drewN ?_ _ | refine New.drew ?_ | refine New.alloc ?_ _ | refine New.setCell ?_ (by first | omega | (simp; omega) | (simp; done)) _ | (refine New.trans ?_ (by assumption)))) n1); clear n1
      go_wp2_with fail
      refine (veGood_any _ _ _ _ _ _ _ _ _ (HC.out.new N1.out) (HD.out.new N1.out)).mono ?_
      rintro e w2 ⟨rfl, n2⟩
      rw [HG2.out]
      replace a0 := n2.cell a0
      replace b0 := n2.cell b0
      have N2 := Lib.hid (N1.out.trans n2); clear n2 b1
      by_cases hnp : n = p
      · subst hnp
        have hne0 : ((n : Int) != (n : Int)) = false := by simp
        have A0 := Lib.hid (And.intro a0 b0)
        go_wp2
        clear a0 b0
        go_loopw [27] (fun i wr => ∃ k : Nat, k ≤ n ∧ i = .int .i64 k ∧ New w2 wr ∧ ∀ j, j < k → S[j]?.getD 0 = T[j]?.getD 0) (fun i _ => n - (intOf i).toNat)
        case atStart => exact ⟨0, Nat.zero_le _, rfl, New.refl _, fun j hj => absurd hj (by omega)⟩
        case round =>
          obtain ⟨k, hk, rfl, hnw, hpre⟩ := hrel
          have NW := Lib.hid hnw; clear hnw
          have HP := Lib.hid hpre; clear hpre
          have a0 := NW.out.cell A0.out.1
          have b0 := NW.out.cell A0.out.2
          by_cases hlt : k < n
          · obtain ⟨e1, o1, rfl, g1, _⟩ := (HA.out.new (N2.out.trans NW.out)).at hlt
            obtain ⟨e2, o2, rfl, g2, _⟩ := (HC.out.new (N2.out.trans NW.out)).at hlt
            obtain ⟨x, hx⟩ : ∃ x, x = S[k]?.getD 0 := ⟨_, rfl⟩
            obtain ⟨y, hy⟩ : ∃ y, y = T[k]?.getD 0 := ⟨_, rfl⟩
            rw [← hx] at g1
            rw [← hy] at g2
            have E := Lib.hid (And.intro hx hy); clear hx hy
            by_cases he : x = y
            · subst he
              go_wp2
              go_roundw
              case rel =>
                refine ⟨k + 1, by omega, by go_num, NW.out, fun j hj => ?_⟩
                by_cases e : j = k
                · subst e; rw [← E.out.1, ← E.out.2]
                · exact HP.out j (by omega)
              case measure => simp [intOf]; omega
            · have hne : (x != y) = true := by simpa using he
              have NE := Lib.hid (ne_at (S := S) (T := T) (k := k) (by rw [← E.out.1, ← E.out.2]; exact he))
              go_wp2
              go_ret
              exact ⟨ret_bool (by rw [SY.out, decide_eq_false NE.out]), N2.out.trans NW.out⟩
          · obtain rfl : k = n := by omega
            have EE := Lib.hid (show S = T from ext_getD (by rw [← L1.out, ← L3.out]) fun j hj => HP.out j (by have := L1.out; omega))
            go_wp2
            go_ret
            exact ⟨ret_bool (by rw [SY.out, decide_eq_true EE.out]), N2.out.trans NW.out⟩
      · have NE := Lib.hid (show S ≠ T from fun e => hnp (by rw [L1.out, L3.out, e]))
        have hne : ((n : Int) != (p : Int)) = true := by simpa using fun e : (n : Int) = (p : Int) => hnp (by omega)
        go_wp2
        go_ret
        exact ⟨ret_bool (by rw [SY.out, decide_eq_false NE.out]), N2.out⟩
    · have hgf : goodB T K = false := by simpa using hg2
      have SY := Lib.hid (sizB_no2 (S := S) (H := H) hgf)
      have HG := Lib.hid hg
      have HG2 := Lib.hid hgf
      clear hg hg2 hgf
      go_enter Try.func38, Try.ntmps38
      go_wp2_with fail
      refine (veGood_any _ _ _ _ _ _ _ _ _ (HA.out.new (by repeat (first | with_reducible exact New.refl _ | with_reducible assumption | refine New.drewN ?_ _ | refine New.drew ?_ | refine New.alloc ?_ _ | refine New.setCell ?_ (by first | omega | (simp; omega) | (simp; done)) _ | (refine New.trans ?_ (by assumption))))) (HB.out.new (by repeat (first | with_reducible exact New.refl _ | with_reducible assumption | refine New.drewN ?_ _ | refine New.drew ?_ | refine New.alloc ?_ _ | refine New.setCell ?_ (by first | omega | (simp; omega) | (simp; done)) _ | (refine New.trans ?_ (by assumption)))))).mono ?_
      rintro e w1 ⟨rfl, n1⟩
      rw [HG.out]
      have b0 : w1.cell? ⟨w.heap.size + 1, 0, none⟩ = some (.slice ba p cc) := n1.cell (by simp [go_sem])
      have b1 : w1.cell? ⟨w.heap.size + 1, 1, none⟩ = some (.slice bb q cd) := n1.cell (by simp [go_sem])
      have N1 := Lib.hid (show New w w1 from New.trans (by repeat (first | with_reducible exact New.refl _ | with_reducible assumption | refine New.drewN ?_ _ | refine New.drew ?_ | refine New.alloc ?_ _ | refine New.setCell ?_ (by first | omega | (simp; omega) | (simp; done)) _ | (refine New.trans ?_ (by assumption)))) n1); clear n1
      go_wp2_with fail
      refine (veGood_any _ _ _ _ _ _ _ _ _ (HC.out.new N1.out) (HD.out.new N1.out)).mono ?_
      rintro e w2 ⟨rfl, n2⟩
      rw [HG2.out]
      have N2 := Lib.hid (N1.out.trans n2); clear n2
      go_wp2
      go_ret
      exact ⟨ret_bool (by rw [SY.out]), N2.out⟩
  · have hgf : goodB S H = false := by simpa using hg
    have SY := Lib.hid (sizB_no1 (T := T) (K := K) hgf)
    have HG := Lib.hid hgf
    clear hg hgf
    go_enter Try.func38, Try.ntmps38
    go_wp2_with fail
    refine (veGood_any _ _ _ _ _ _ _ _ _ (HA.out.new (by repeat (first | with_reducible exact New.refl _ | with_reducible assumption | refine New.drewN ?_ _ | refine New.drew ?_ | refine New.alloc ?_ _ | refine New.setCell ?_ (by first | omega | (simp; omega) | (simp; done)) _ | (refine New.trans ?_ (by assumption))))) (HB.out.new (by repeat (first | with_reducible exact New.refl _ | with_reducible assumption | refine New.drewN ?_ _ | refine New.drew ?_ | refine New.alloc ?_ _ | refine New.setCell ?_ (by first | omega | (simp; omega) | (simp; done)) _ | (refine New.trans ?_ (by assumption)))))).mono ?_
    rintro e w1 ⟨rfl, n1⟩
    rw [HG.out]
    have N1 := Lib.hid (show New w w1 from New.trans (by repeat (first | with_reducible exact New.refl _ | with_reducible assumption | refine New.drewN ?_ _ | refine New.drew ?_ | refine New.alloc ?_ _ | refine New.setCell ?_ (by first | omega | (simp; omega) | (simp; done)) _ | (refine New.trans ?_ (by assumption)))) n1); clear n1
    go_wp2
    go_ret
    exact ⟨ret_bool (by rw [SY.out]), N1.out⟩
end Go.Proofs.Ytjailklnagfglaa
