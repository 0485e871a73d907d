/- Flights: whether there is one, the water in its locks, its height. -/
import Derived.Test.YtknkiodpblbecaaLkF
import Derived.Deep.RegionWith
namespace Go.Proofs.Ytknkiodpblbecaa
open Go.RowKit

def wilTo (L : List Int) (F : List Bool) : Nat → Int
  | 0 => 0
  | k + 1 => if F[k]?.getD false = true then wrap64 (wilTo L F k + L[k]?.getD 0) else wilTo L F k
def hofTo (L : List Int) : Nat → Int
  | 0 => 0
  | k + 1 => wrap64 (hofTo L k + L[k]?.getD 0)
def wilM (L : List Int) (F : List Bool) : Int := if fliB L F = true then wilTo L F L.length else 0
def hofM (L : List Int) (F : List Bool) : Int := if fliB L F = true then hofTo L L.length else 0
theorem wilM_no {L : List Int} {F : List Bool} (h : fliB L F = false) : wilM L F = 0 := by unfold wilM; rw [if_neg (by rw [h]; decide)]
theorem hofM_no {L : List Int} {F : List Bool} (h : fliB L F = false) : hofM L F = 0 := by unfold hofM; rw [if_neg (by rw [h]; decide)]
theorem wilTo_yes {L : List Int} {F : List Bool} {k : Nat} (h : F[k]?.getD false = true) : wilTo L F (k + 1) = wrap64 (wilTo L F k + L[k]?.getD 0) := by rw [wilTo, if_pos h]
theorem wilTo_no {L : List Int} {F : List Bool} {k : Nat} (h : F[k]?.getD false = false) : wilTo L F (k + 1) = wilTo L F k := by rw [wilTo, if_neg (by rw [h]; decide)]

set_option maxRecDepth 100000 in
theorem sIsFlight_any (w : World) (aa ab : Option Addr) (n m ca cb : Nat) (L : List Int) (F : List Bool) (h1 : Ints w aa n ca L) (h2 : Bools w ab m cb F) : Calls Try.prog 10 #[.agg #[.slice aa n ca, .slice ab m cb]] w fun e w' => e = .returned (.bool (fliB L F)) ∧ New w w' := by
  have HA := Lib.hid h1; clear h1
  have HB := Lib.hid h2; clear h2
  go_enter Try.func10, Try.ntmps10
  go_wp2_with fail
  refine (sGood_any _ _ _ _ _ _ _ L F (HA.out.new (by repeat (first | with_reducible exact New.refl _ | with_reducible assumption | refine New.drewN ?_ _ | refine New.drew ?_ | refine New.alloc ?_ _ | refine New.setCell ?_ (by first | omega | (simp; omega) | (simp; done)) _ | (refine New.trans ?_ (by assumption))))) (HB.out.new (by repeat (first | with_reducible exact New.refl _ | with_reducible assumption | refine New.drewN ?_ _ | refine New.drew ?_ | refine New.alloc ?_ _ | refine New.setCell ?_ (by first | omega | (simp; omega) | (simp; done)) _ | (refine New.trans ?_ (by assumption)))))).mono ?_
  rintro e w1 ⟨rfl, n1⟩
  go_wp2
  go_ret
  exact ⟨rfl, New.trans (by repeat (first | with_reducible exact New.refl _ | with_reducible assumption | refine New.drewN ?_ _ | refine New.drew ?_ | refine New.alloc ?_ _ | refine New.setCell ?_ (by first | omega | (simp; omega) | (simp; done)) _ | (refine New.trans ?_ (by assumption)))) n1⟩

set_option maxRecDepth 100000 in
theorem loHeld_any (w : World) (aa ab : Option Addr) (n m ca cb : Nat) (L : List Int) (F : List Bool) (h1 : Ints w aa n ca L) (h2 : Bools w ab m cb F) (hl : m = n) : Calls Try.prog 33 #[.agg #[.slice aa n ca, .slice ab m cb]] w fun e w' => e = .returned (.int .i64 (wilTo L F n)) ∧ New w w' := by
  subst hl
  have hm9 := h1.2.2.1
  have HA := Lib.hid h1; clear h1
  have HB := Lib.hid h2; clear h2
  go_enter Try.func33, Try.ntmps33
  go_wp2
  obtain ⟨v0, hv0⟩ : ∃ xx : World, xx = (w.alloc (.cells #[.slice aa m ca, .slice ab m cb] 28)) := ⟨_, rfl⟩
  rw [← hv0]
  have N0 := Lib.hid (show New w v0 by rw [hv0]; exact (by repeat (first | with_reducible exact New.refl _ | with_reducible assumption | refine New.drewN ?_ _ | refine New.drew ?_ | refine New.alloc ?_ _ | refine New.setCell ?_ (by first | omega | (simp; omega) | (simp; done)) _ | (refine New.trans ?_ (by assumption)))))
  have c0 : v0.cell? ⟨w.heap.size, 0, none⟩ = some (.slice aa m ca) := by rw [hv0]; simp [go_sem]
  clear hv0
  go_loopw [3, 9] (fun y i wr => ∃ k : Nat, k ≤ m ∧ i = .int .i64 k ∧ y = .int .i64 (wilTo L F k) ∧ wr = v0) (fun _ i _ => m - (intOf i).toNat)
  case atStart => exact ⟨0, Nat.zero_le _, rfl, rfl, rfl⟩
  case round =>
    obtain ⟨k, hk, rfl, rfl, rfl⟩ := hrel
    by_cases hlt : k < m
    · obtain ⟨ba, oa, rfl, ga, za⟩ := (HA.out.new N0.out).at hlt
      obtain ⟨bb, ob, rfl, gb, zb⟩ := (HB.out.new N0.out).at hlt
      obtain ⟨x, hx⟩ : ∃ x, x = L[k]?.getD 0 := ⟨_, rfl⟩
      simp only [← hx] at ga
      have HX := Lib.hid hx; clear hx
      cases hf : F[k]?.getD false
      case true =>
        rw [hf] at gb
        have HF := Lib.hid hf; clear hf
        go_wp2
        go_roundw
        case rel => exact ⟨k + 1, by omega, by go_num, by rw [wilTo_yes HF.out, HX.out], by first | rfl | trivial⟩
        case measure => simp [intOf]; omega
      case false =>
        rw [hf] at gb
        have HF := Lib.hid hf; clear hf
        go_wp2
        go_roundw
        case rel => exact ⟨k + 1, by omega, by go_num, by rw [wilTo_no HF.out], by first | rfl | trivial⟩
        case measure => simp [intOf]; omega
    · obtain rfl : k = m := by omega
      go_wp2
      go_ret
      exact ⟨rfl, N0.out⟩

set_option maxRecDepth 100000 in
theorem veSumW_any (w : World) (aa : Option Addr) (n ca : Nat) (L : List Int) (h1 : Ints w aa n ca L) : Calls Try.prog 34 #[.slice aa n ca] w fun e w' => e = .returned (.int .i64 (hofTo L n)) ∧ w = w' := by
  have hm9 := h1.2.2.1
  have HA := Lib.hid h1; clear h1
  go_enter Try.func34, Try.ntmps34
  go_wp2
  go_loopw [3, 8] (fun y i wr => ∃ k : Nat, k ≤ n ∧ i = .int .i64 k ∧ y = .int .i64 (hofTo L k) ∧ wr = w) (fun _ i _ => n - (intOf i).toNat)
  case atStart => exact ⟨0, Nat.zero_le _, rfl, rfl, rfl⟩
  case round =>
    obtain ⟨k, hk, rfl, rfl, rfl⟩ := hrel
    by_cases hlt : k < n
    · obtain ⟨ba, oa, rfl, ga, za⟩ := HA.out.at hlt
      obtain ⟨x, hx⟩ : ∃ x, x = L[k]?.getD 0 := ⟨_, rfl⟩
      simp only [← hx] at ga
      have HX := Lib.hid hx; clear hx
      go_wp2
      go_roundw
      case rel => exact ⟨k + 1, by omega, by go_num, by rw [hofTo, HX.out], by first | rfl | trivial⟩
      case measure => simp [intOf]; omega
    · obtain rfl : k = n := by omega
      go_wp2
      go_ret
      exact ⟨rfl, rfl⟩

set_option maxRecDepth 100000 in
theorem sWaterInLocks_any (w : World) (aa ab : Option Addr) (n m ca cb : Nat) (L : List Int) (F : List Bool) (h1 : Ints w aa n ca L) (h2 : Bools w ab m cb F) : Calls Try.prog 14 #[.agg #[.slice aa n ca, .slice ab m cb]] w fun e w' => e = .returned (.tuple #[.int .i64 (wilM L F), .bool (fliB L F)]) ∧ New w w' := by
  have hn := h1.len
  have hm := h2.len
  have hm9 := h1.2.2.1
  have HA := Lib.hid h1; clear h1
  have HB := Lib.hid h2; clear h2
  cases hf : fliB L F
  case false =>
    rw [wilM_no hf]
    have HF := Lib.hid hf; clear hf hn hm
    go_enter Try.func14, Try.ntmps14
    go_wp2_with fail
    refine (sGood_any _ _ _ _ _ _ _ L F (HA.out.new (by repeat (first | with_reducible exact New.refl _ | with_reducible assumption | refine New.drewN ?_ _ | refine New.drew ?_ | refine New.alloc ?_ _ | refine New.setCell ?_ (by first | omega | (simp; omega) | (simp; done)) _ | (refine New.trans ?_ (by assumption))))) (HB.out.new (by repeat (first | with_reducible exact New.refl _ | with_reducible assumption | refine New.drewN ?_ _ | refine New.drew ?_ | refine New.alloc ?_ _ | refine New.setCell ?_ (by first | omega | (simp; omega) | (simp; done)) _ | (refine New.trans ?_ (by assumption)))))).mono ?_
    rintro e w1 ⟨rfl, n1⟩
    rw [HF.out]
    go_wp2
    go_ret2
    exact ⟨rfl, New.trans (by repeat (first | with_reducible exact New.refl _ | with_reducible assumption | refine New.drewN ?_ _ | refine New.drew ?_ | refine New.alloc ?_ _ | refine New.setCell ?_ (by first | omega | (simp; omega) | (simp; done)) _ | (refine New.trans ?_ (by assumption)))) n1⟩
  case true =>
    obtain ⟨hl1, hl2, _⟩ := fliB_iff.1 hf
    have R : wilM L F = wilTo L F n := by unfold wilM; rw [if_pos hf, ← hn]
    rw [R]
    have hmn : m = n := by omega
    subst hmn
    have k6 : m ≤ 6 := by omega
    have HF := Lib.hid hf; clear hf R hn hm hl1 hl2
    go_enter Try.func14, Try.ntmps14
    go_wp2_with fail
    refine (sGood_any _ _ _ _ _ _ _ L F (HA.out.new (by repeat (first | with_reducible exact New.refl _ | with_reducible assumption | refine New.drewN ?_ _ | refine New.drew ?_ | refine New.alloc ?_ _ | refine New.setCell ?_ (by first | omega | (simp; omega) | (simp; done)) _ | (refine New.trans ?_ (by assumption))))) (HB.out.new (by repeat (first | with_reducible exact New.refl _ | with_reducible assumption | refine New.drewN ?_ _ | refine New.drew ?_ | refine New.alloc ?_ _ | refine New.setCell ?_ (by first | omega | (simp; omega) | (simp; done)) _ | (refine New.trans ?_ (by assumption)))))).mono ?_
    rintro e w1 ⟨rfl, n1⟩
    have c0 : w1.cell? ⟨w.heap.size, 0, none⟩ = some (.slice aa m ca) := n1.cell (by simp [go_sem])
    have c1 : w1.cell? ⟨w.heap.size, 1, none⟩ = some (.slice ab m cb) := n1.cell (by simp [go_sem])
    have N1 := Lib.hid (show New w w1 from New.trans (by repeat (first | with_reducible exact New.refl _ | with_reducible assumption | refine New.drewN ?_ _ | refine New.drew ?_ | refine New.alloc ?_ _ | refine New.setCell ?_ (by first | omega | (simp; omega) | (simp; done)) _ | (refine New.trans ?_ (by assumption)))) n1); clear n1
    rw [HF.out]
    go_wp2_with fail
    refine (loHeld_any _ _ _ _ _ _ _ L F (HA.out.new N1.out) (HB.out.new N1.out) rfl).mono ?_
    rintro e w2 ⟨rfl, n2⟩
    have N2 := Lib.hid (N1.out.trans n2); clear n2
    go_wp2
    go_ret2
    exact ⟨rfl, N2.out⟩

set_option maxRecDepth 100000 in
theorem iWaterInLocks_any (w : World) (aa ab : Option Addr) (n m ca cb : Nat) (L : List Int) (F : List Bool) (h1 : Ints w aa n ca L) (h2 : Bools w ab m cb F) : Calls Try.prog 15 #[.agg #[.slice aa n ca, .slice ab m cb]] w fun e w' => e = .returned (.tuple #[.int .i64 (wilM L F), .bool (fliB L F)]) ∧ New w w' := by
  have hn := h1.len
  have hm := h2.len
  have hm9 := h1.2.2.1
  have HA := Lib.hid h1; clear h1
  have HB := Lib.hid h2; clear h2
  cases hf : fliB L F
  case false =>
    rw [wilM_no hf]
    have HF := Lib.hid hf; clear hf hn hm
    go_enter Try.func15, Try.ntmps15
    go_wp2_with fail
    refine (iIsFlight_any _ _ _ _ _ _ _ L F (HA.out.new (by repeat (first | with_reducible exact New.refl _ | with_reducible assumption | refine New.drewN ?_ _ | refine New.drew ?_ | refine New.alloc ?_ _ | refine New.setCell ?_ (by first | omega | (simp; omega) | (simp; done)) _ | (refine New.trans ?_ (by assumption))))) (HB.out.new (by repeat (first | with_reducible exact New.refl _ | with_reducible assumption | refine New.drewN ?_ _ | refine New.drew ?_ | refine New.alloc ?_ _ | refine New.setCell ?_ (by first | omega | (simp; omega) | (simp; done)) _ | (refine New.trans ?_ (by assumption)))))).mono ?_
    rintro e w1 ⟨rfl, n1⟩
    rw [HF.out]
    go_wp2
    go_ret2
    exact ⟨rfl, New.trans (by repeat (first | with_reducible exact New.refl _ | with_reducible assumption | refine New.drewN ?_ _ | refine New.drew ?_ | refine New.alloc ?_ _ | refine New.setCell ?_ (by first | omega | (simp; omega) | (simp; done)) _ | (refine New.trans ?_ (by assumption)))) n1⟩
  case true =>
    obtain ⟨hl1, hl2, _⟩ := fliB_iff.1 hf
    have R : wilM L F = wilTo L F n := by unfold wilM; rw [if_pos hf, ← hn]
    rw [R]
    have hmn : m = n := by omega
    subst hmn
    have k6 : m ≤ 6 := by omega
    have HF := Lib.hid hf; clear hf R hn hm hl1 hl2
    go_enter Try.func15, Try.ntmps15
    go_wp2_with fail
    refine (iIsFlight_any _ _ _ _ _ _ _ L F (HA.out.new (by repeat (first | with_reducible exact New.refl _ | with_reducible assumption | refine New.drewN ?_ _ | refine New.drew ?_ | refine New.alloc ?_ _ | refine New.setCell ?_ (by first | omega | (simp; omega) | (simp; done)) _ | (refine New.trans ?_ (by assumption))))) (HB.out.new (by repeat (first | with_reducible exact New.refl _ | with_reducible assumption | refine New.drewN ?_ _ | refine New.drew ?_ | refine New.alloc ?_ _ | refine New.setCell ?_ (by first | omega | (simp; omega) | (simp; done)) _ | (refine New.trans ?_ (by assumption)))))).mono ?_
    rintro e w1 ⟨rfl, n1⟩
    have c0 : w1.cell? ⟨w.heap.size, 0, none⟩ = some (.slice aa m ca) := n1.cell (by simp [go_sem])
    have c1 : w1.cell? ⟨w.heap.size, 1, none⟩ = some (.slice ab m cb) := n1.cell (by simp [go_sem])
    have N1 := Lib.hid (show New w w1 from New.trans (by repeat (first | with_reducible exact New.refl _ | with_reducible assumption | refine New.drewN ?_ _ | refine New.drew ?_ | refine New.alloc ?_ _ | refine New.setCell ?_ (by first | omega | (simp; omega) | (simp; done)) _ | (refine New.trans ?_ (by assumption)))) n1); clear n1
    rw [HF.out]
    go_wp2_with fail
    go_loopw [4, 13] (fun y i wr => ∃ k : Nat, k ≤ m ∧ i = .int .i64 k ∧ y = .int .i64 (wilTo L F k) ∧ wr = w1) (fun _ i _ => m - (intOf i).toNat)
    case atStart => exact ⟨0, Nat.zero_le _, rfl, rfl, rfl⟩
    case round =>
      obtain ⟨k, hk, rfl, rfl, rfl⟩ := hrel
      by_cases hlt : k < m
      · obtain ⟨ba, oa, rfl, ga, za⟩ := (HA.out.new N1.out).at hlt
        obtain ⟨bb, ob, rfl, gb, zb⟩ := (HB.out.new N1.out).at hlt
        obtain ⟨x, hx⟩ : ∃ x, x = L[k]?.getD 0 := ⟨_, rfl⟩
        simp only [← hx] at ga
        have HX := Lib.hid hx; clear hx
        cases hf : F[k]?.getD false
        case true =>
          rw [hf] at gb
          have HF := Lib.hid hf; clear hf
          go_wp2
          go_roundw
          case rel => exact ⟨k + 1, by omega, by go_num, by rw [wilTo_yes HF.out, HX.out], by first | rfl | trivial⟩
          case measure => simp [intOf]; omega
        case false =>
          rw [hf] at gb
          have HF := Lib.hid hf; clear hf
          go_wp2
          go_roundw
          case rel => exact ⟨k + 1, by omega, by go_num, by rw [wilTo_no HF.out], by first | rfl | trivial⟩
          case measure => simp [intOf]; omega
      · obtain rfl : k = m := by omega
        go_wp2
        go_ret2
        exact ⟨rfl, N1.out⟩

set_option maxRecDepth 100000 in
theorem sHeightOfFlight_any (w : World) (aa ab : Option Addr) (n m ca cb : Nat) (L : List Int) (F : List Bool) (h1 : Ints w aa n ca L) (h2 : Bools w ab m cb F) : Calls Try.prog 16 #[.agg #[.slice aa n ca, .slice ab m cb]] w fun e w' => e = .returned (.tuple #[.int .i64 (hofM L F), .bool (fliB L F)]) ∧ New w w' := by
  have hn := h1.len
  have hm := h2.len
  have hm9 := h1.2.2.1
  have HA := Lib.hid h1; clear h1
  have HB := Lib.hid h2; clear h2
  cases hf : fliB L F
  case false =>
    rw [hofM_no hf]
    have HF := Lib.hid hf; clear hf hn hm
    go_enter Try.func16, Try.ntmps16
    go_wp2_with fail
    refine (sGood_any _ _ _ _ _ _ _ L F (HA.out.new (by repeat (first | with_reducible exact New.refl _ | with_reducible assumption | refine New.drewN ?_ _ | refine New.drew ?_ | refine New.alloc ?_ _ | refine New.setCell ?_ (by first | omega | (simp; omega) | (simp; done)) _ | (refine New.trans ?_ (by assumption))))) (HB.out.new (by repeat (first | with_reducible exact New.refl _ | with_reducible assumption | refine New.drewN ?_ _ | refine New.drew ?_ | refine New.alloc ?_ _ | refine New.setCell ?_ (by first | omega | (simp; omega) | (simp; done)) _ | (refine New.trans ?_ (by assumption)))))).mono ?_
    rintro e w1 ⟨rfl, n1⟩
    rw [HF.out]
    go_wp2
    go_ret2
    exact ⟨rfl, New.trans (by repeat (first | with_reducible exact New.refl _ | with_reducible assumption | refine New.drewN ?_ _ | refine New.drew ?_ | refine New.alloc ?_ _ | refine New.setCell ?_ (by first | omega | (simp; omega) | (simp; done)) _ | (refine New.trans ?_ (by assumption)))) n1⟩
  case true =>
    obtain ⟨hl1, hl2, _⟩ := fliB_iff.1 hf
    have R : hofM L F = hofTo L n := by unfold hofM; rw [if_pos hf, ← hn]
    rw [R]
    have hmn : m = n := by omega
    subst hmn
    have k6 : m ≤ 6 := by omega
    have HF := Lib.hid hf; clear hf R hn hm hl1 hl2
    go_enter Try.func16, Try.ntmps16
    go_wp2_with fail
    refine (sGood_any _ _ _ _ _ _ _ L F (HA.out.new (by repeat (first | with_reducible exact New.refl _ | with_reducible assumption | refine New.drewN ?_ _ | refine New.drew ?_ | refine New.alloc ?_ _ | refine New.setCell ?_ (by first | omega | (simp; omega) | (simp; done)) _ | (refine New.trans ?_ (by assumption))))) (HB.out.new (by repeat (first | with_reducible exact New.refl _ | with_reducible assumption | refine New.drewN ?_ _ | refine New.drew ?_ | refine New.alloc ?_ _ | refine New.setCell ?_ (by first | omega | (simp; omega) | (simp; done)) _ | (refine New.trans ?_ (by assumption)))))).mono ?_
    rintro e w1 ⟨rfl, n1⟩
    have c0 : w1.cell? ⟨w.heap.size, 0, none⟩ = some (.slice aa m ca) := n1.cell (by simp [go_sem])
    have c1 : w1.cell? ⟨w.heap.size, 1, none⟩ = some (.slice ab m cb) := n1.cell (by simp [go_sem])
    have N1 := Lib.hid (show New w w1 from New.trans (by repeat (first | with_reducible exact New.refl _ | with_reducible assumption | refine New.drewN ?_ _ | refine New.drew ?_ | refine New.alloc ?_ _ | refine New.setCell ?_ (by first | omega | (simp; omega) | (simp; done)) _ | (refine New.trans ?_ (by assumption)))) n1); clear n1
    rw [HF.out]
    go_wp2_with fail
    refine (veSumW_any _ _ _ _ L (HA.out.new N1.out)).mono ?_
    rintro e w2 ⟨rfl, rfl⟩
    go_wp2
    go_ret2
    exact ⟨rfl, N1.out⟩

set_option maxRecDepth 100000 in
theorem iHeightOfFlight_any (w : World) (aa ab : Option Addr) (n m ca cb : Nat) (L : List Int) (F : List Bool) (h1 : Ints w aa n ca L) (h2 : Bools w ab m cb F) : Calls Try.prog 17 #[.agg #[.slice aa n ca, .slice ab m cb]] w fun e w' => e = .returned (.tuple #[.int .i64 (hofM L F), .bool (fliB L F)]) ∧ New w w' := by
  have hn := h1.len
  have hm := h2.len
  have hm9 := h1.2.2.1
  have HA := Lib.hid h1; clear h1
  have HB := Lib.hid h2; clear h2
  cases hf : fliB L F
  case false =>
    rw [hofM_no hf]
    have HF := Lib.hid hf; clear hf hn hm
    go_enter Try.func17, Try.ntmps17
    go_wp2_with fail
    refine (iIsFlight_any _ _ _ _ _ _ _ L F (HA.out.new (by repeat (first | with_reducible exact New.refl _ | with_reducible assumption | refine New.drewN ?_ _ | refine New.drew ?_ | refine New.alloc ?_ _ | refine New.setCell ?_ (by first | omega | (simp; omega) | (simp; done)) _ | (refine New.trans ?_ (by assumption))))) (HB.out.new (by repeat (first | with_reducible exact New.refl _ | with_reducible assumption | refine New.drewN ?_ _ | refine New.drew ?_ | refine New.alloc ?_ _ | refine New.setCell ?_ (by first | omega | (simp; omega) | (simp; done)) _ | (refine New.trans ?_ (by assumption)))))).mono ?_
    rintro e w1 ⟨rfl, n1⟩
    rw [HF.out]
    go_wp2
    go_ret2
    exact ⟨rfl, New.trans (by repeat (first | with_reducible exact New.refl _ | with_reducible assumption | refine New.drewN ?_ _ | refine New.drew ?_ | refine New.alloc ?_ _ | refine New.setCell ?_ (by first | omega | (simp; omega) | (simp; done)) _ | (refine New.trans ?_ (by assumption)))) n1⟩
  case true =>
    obtain ⟨hl1, hl2, _⟩ := fliB_iff.1 hf
    have R : hofM L F = hofTo L n := by unfold hofM; rw [if_pos hf, ← hn]
    rw [R]
    have hmn : m = n := by omega
    subst hmn
    have k6 : m ≤ 6 := by omega
    have HF := Lib.hid hf; clear hf R hn hm hl1 hl2
    go_enter Try.func17, Try.ntmps17
    go_wp2_with fail
    refine (iIsFlight_any _ _ _ _ _ _ _ L F (HA.out.new (by repeat (first | with_reducible exact New.refl _ | with_reducible assumption | refine New.drewN ?_ _ | refine New.drew ?_ | refine New.alloc ?_ _ | refine New.setCell ?_ (by first | omega | (simp; omega) | (simp; done)) _ | (refine New.trans ?_ (by assumption))))) (HB.out.new (by repeat (first | with_reducible exact New.refl _ | with_reducible assumption | refine New.drewN ?_ _ | refine New.drew ?_ | refine New.alloc ?_ _ | refine New.setCell ?_ (by first | omega | (simp; omega) | (simp; done)) _ | (refine New.trans ?_ (by assumption)))))).mono ?_
    rintro e w1 ⟨rfl, n1⟩
    have c0 : w1.cell? ⟨w.heap.size, 0, none⟩ = some (.slice aa m ca) := n1.cell (by simp [go_sem])
    have c1 : w1.cell? ⟨w.heap.size, 1, none⟩ = some (.slice ab m cb) := n1.cell (by simp [go_sem])
    have N1 := Lib.hid (show New w w1 from New.trans (by repeat (first | with_reducible exact New.refl _ | with_reducible assumption | refine New.drewN ?_ _ | refine New.drew ?_ | refine New.alloc ?_ _ | refine New.setCell ?_ (by first | omega | (simp; omega) | (simp; done)) _ | (refine New.trans ?_ (by assumption)))) n1); clear n1
    rw [HF.out]
    go_wp2_with fail
    go_loopw [4, 13] (fun y i wr => ∃ k : Nat, k ≤ m ∧ i = .int .i64 k ∧ y = .int .i64 (hofTo L k) ∧ wr = w1) (fun _ i _ => m - (intOf i).toNat)
    case atStart => exact ⟨0, Nat.zero_le _, rfl, rfl, rfl⟩
    case round =>
      obtain ⟨k, hk, rfl, rfl, rfl⟩ := hrel
      by_cases hlt : k < m
      · obtain ⟨ba, oa, rfl, ga, za⟩ := (HA.out.new N1.out).at hlt
        obtain ⟨x, hx⟩ : ∃ x, x = L[k]?.getD 0 := ⟨_, rfl⟩
        simp only [← hx] at ga
        have HX := Lib.hid hx; clear hx
        go_wp2
        go_roundw
        case rel => exact ⟨k + 1, by omega, by go_num, by rw [hofTo, HX.out], by first | rfl | trivial⟩
        case measure => simp [intOf]; omega
      · obtain rfl : k = m := by omega
        go_wp2
        go_ret2
        exact ⟨rfl, N1.out⟩
end Go.Proofs.Ytknkiodpblbecaa
