/- The program's functions on one basin, rows and flows. -/
import Derived.Test.YtchnnbkaiagpgaaWeir
import Derived.Test.YtchnnbkaiagpgaaRowBasin
namespace Go.Proofs.Ytchnnbkaiagpgaa
open Go.RowKit

abbrev basV (a o u : Int) : Value := .agg #[.int .i64 a, .int .i64 o, .int .i64 u]

theorem isBasin_any (w : World) (a o u : Int) :
    Calls Try.prog 59 #[basV a o u] w fun e w' => e = .returned (.bool (basB (a, o, u))) ∧ New w w' := by
  by_cases h0 : 1 ≤ a
  · by_cases h1 : a ≤ 1000
    · by_cases h2 : 0 ≤ o
      · by_cases h3 : o ≤ 1000
        · by_cases h4 : 0 ≤ u
          · by_cases h5 : u ≤ a
            · go_enter Try.func59, Try.ntmps59
              go_wp2
              go_ret
              exact ⟨ret_bool (basB_iff.2 ⟨h0, h1, h2, h3, h4, h5⟩).symm, (by repeat (first | with_reducible exact New.refl _ | with_reducible assumption | refine New.drewN ?_ _ | refine New.drew ?_ | refine New.alloc ?_ _ | refine New.setCell ?_ (by first | omega | (simp; omega) | (simp; done)) _ | (refine New.trans ?_ (by assumption))))⟩
            · have h5f : decide (u ≤ a) = false := by simpa using h5
              go_enter Try.func59, Try.ntmps59
              go_wp2
              go_ret
              exact ⟨ret_bool (show false = basB (a, o, u) from (bool_no fun h => by have := basB_iff.1 h; unfold BasOk at this; simp only at this; omega).symm), (by repeat (first | with_reducible exact New.refl _ | with_reducible assumption | refine New.drewN ?_ _ | refine New.drew ?_ | refine New.alloc ?_ _ | refine New.setCell ?_ (by first | omega | (simp; omega) | (simp; done)) _ | (refine New.trans ?_ (by assumption))))⟩
          · have h4f : decide (0 ≤ u) = false := by simpa using h4
            go_enter Try.func59, Try.ntmps59
            go_wp2
            go_ret
            exact ⟨ret_bool (show false = basB (a, o, u) from (bool_no fun h => by have := basB_iff.1 h; unfold BasOk at this; simp only at this; omega).symm), (by repeat (first | with_reducible exact New.refl _ | with_reducible assumption | refine New.drewN ?_ _ | refine New.drew ?_ | refine New.alloc ?_ _ | refine New.setCell ?_ (by first | omega | (simp; omega) | (simp; done)) _ | (refine New.trans ?_ (by assumption))))⟩
        · have h3f : decide (o ≤ 1000) = false := by simpa using h3
          go_enter Try.func59, Try.ntmps59
          go_wp2
          go_ret
          exact ⟨ret_bool (show false = basB (a, o, u) from (bool_no fun h => by have := basB_iff.1 h; unfold BasOk at this; simp only at this; omega).symm), (by repeat (first | with_reducible exact New.refl _ | with_reducible assumption | refine New.drewN ?_ _ | refine New.drew ?_ | refine New.alloc ?_ _ | refine New.setCell ?_ (by first | omega | (simp; omega) | (simp; done)) _ | (refine New.trans ?_ (by assumption))))⟩
      · have h2f : decide (0 ≤ o) = false := by simpa using h2
        go_enter Try.func59, Try.ntmps59
        go_wp2
        go_ret
        exact ⟨ret_bool (show false = basB (a, o, u) from (bool_no fun h => by have := basB_iff.1 h; unfold BasOk at this; simp only at this; omega).symm), (by repeat (first | with_reducible exact New.refl _ | with_reducible assumption | refine New.drewN ?_ _ | refine New.drew ?_ | refine New.alloc ?_ _ | refine New.setCell ?_ (by first | omega | (simp; omega) | (simp; done)) _ | (refine New.trans ?_ (by assumption))))⟩
    · have h1f : decide (a ≤ 1000) = false := by simpa using h1
      go_enter Try.func59, Try.ntmps59
      go_wp2
      go_ret
      exact ⟨ret_bool (show false = basB (a, o, u) from (bool_no fun h => by have := basB_iff.1 h; unfold BasOk at this; simp only at this; omega).symm), (by repeat (first | with_reducible exact New.refl _ | with_reducible assumption | refine New.drewN ?_ _ | refine New.drew ?_ | refine New.alloc ?_ _ | refine New.setCell ?_ (by first | omega | (simp; omega) | (simp; done)) _ | (refine New.trans ?_ (by assumption))))⟩
  · have h0f : decide (1 ≤ a) = false := by simpa using h0
    go_enter Try.func59, Try.ntmps59
    go_wp2
    go_ret
    exact ⟨ret_bool (show false = basB (a, o, u) from (bool_no fun h => by have := basB_iff.1 h; unfold BasOk at this; simp only at this; omega).symm), (by repeat (first | with_reducible exact New.refl _ | with_reducible assumption | refine New.drewN ?_ _ | refine New.drew ?_ | refine New.alloc ?_ _ | refine New.setCell ?_ (by first | omega | (simp; omega) | (simp; done)) _ | (refine New.trans ?_ (by assumption))))⟩

theorem isFlow_any (w : World) (x : Int) :
    Calls Try.prog 61 #[.int .i64 x] w fun e w' => e = .returned (.bool (inB 0 1000 x)) ∧ w = w' := by
  by_cases h1 : 0 ≤ x
  · go_enter Try.func61, Try.ntmps61
    go_wp2
    go_ret
    exact ⟨ret_bool (by simp [inB, h1]), rfl⟩
  · have h1f : decide (0 ≤ x) = false := by simpa using h1
    go_enter Try.func61, Try.ntmps61
    go_wp2
    go_ret
    exact ⟨ret_bool (by unfold inB; rw [h1f]; rfl), rfl⟩

theorem isPlace_any (w : World) (aa : Option Addr) (n ca : Nat) (i : Int) (hn : n ≤ 9223372036854775807) :
    Calls Try.prog 63 #[.slice aa n ca, .int .i64 i] w fun e w' => e = .returned (.bool (decide (0 ≤ i) && decide (i < (n : Int)))) ∧ w = w' := by
  by_cases h1 : 0 ≤ i
  · go_enter Try.func63, Try.ntmps63
    go_wp2
    go_ret
    exact ⟨ret_bool (by simp [h1]), rfl⟩
  · have h1f : decide (0 ≤ i) = false := by simpa using h1
    go_enter Try.func63, Try.ntmps63
    go_wp2
    go_ret
    exact ⟨ret_bool (by first | rfl | (rw [h1f]; rfl) | simp [h1f]), rfl⟩

theorem areWithin_any (w : World) (aa : Option Addr) (n ca : Nat) (l : List Int) (lo hi : Int) (ha : Ints w aa n ca l) :
    Calls Try.prog 60 #[.slice aa n ca, .int .i64 lo, .int .i64 hi] w fun e w' => e = .returned (.bool (allB lo hi l)) ∧ w = w' := by
  have HA := Lib.hid ha; clear ha
  have hm := HA.out.2.2.1
  go_enter Try.func60, Try.ntmps60
  go_wp2
  go_loop [11] (fun i => ∃ k : Nat, k ≤ n ∧ i = .int .i64 k ∧ ∀ j, j < k → inB lo hi (l[j]?.getD 0) = true) (fun i => n - (intOf i).toNat)
  case atStart => exact ⟨0, Nat.zero_le _, rfl, fun j hj => absurd hj (by omega)⟩
  case round =>
    obtain ⟨k, hk, rfl, hpre⟩ := hrel
    have HP := Lib.hid hpre; clear hpre
    by_cases hlt : k < n
    · obtain ⟨b, o, rfl, hc, _⟩ := HA.out.at hlt
      obtain ⟨u, hu⟩ : ∃ u, u = l[k]?.getD 0 := ⟨_, rfl⟩
      rw [← hu] at hc
      have HU := Lib.hid hu; clear hu
      by_cases hb : inB lo hi u = true
      · obtain ⟨g1, g2⟩ := inB_iff.1 hb
        go_wp2
        go_round
        case rel =>
          refine ⟨k + 1, by omega, by go_num, fun j hj => ?_⟩
          by_cases e : j = k
          · subst e; rw [← HU.out]; exact hb
          · exact HP.out j (by omega)
        case measure => simp [intOf]; omega
      · have hbf : inB lo hi u = false := by simpa using hb
        by_cases g1 : u < lo
        · go_wp2
          go_ret
          refine ⟨ret_bool ?_, rfl⟩
          symm
          rw [← Bool.not_eq_true, allB_iff]
          intro h
          have := h k (by have := HA.out.len; omega)
          rw [← HU.out] at this
          omega
        · have g2 : hi < u := by rw [inB_false] at hbf; omega
          go_wp2
          go_ret
          refine ⟨ret_bool ?_, rfl⟩
          symm
          rw [← Bool.not_eq_true, allB_iff]
          intro h
          have := h k (by have := HA.out.len; omega)
          rw [← HU.out] at this
          omega
    · go_wp2
      go_ret
      refine ⟨ret_bool ?_, rfl⟩
      symm
      rw [allB_iff]
      intro j hj
      exact inB_iff.1 (HP.out j (by have := HA.out.len; omega))

set_option maxHeartbeats 2000000 in
theorem iIsRow_any (w : World) (aa : Option Addr) (n ca : Nat) (l : List (Int × Int × Int)) (ha : Basins w aa n ca l) :
    Calls Try.prog 21 #[.slice aa n ca] w fun e w' => e = .returned (.bool (rowB l)) ∧ New w w' := by
  have HL := Lib.hid ha.1
  have hm := ha.2.2.1
  have HA := Lib.hid ha; clear ha
  by_cases h1 : 1 ≤ n
  · by_cases h6 : n ≤ 6
    · go_enter Try.func21, Try.ntmps21
      go_wp2
      go_loopw [15] (fun i wr => ∃ k : Nat, k ≤ n ∧ i = .int .i64 k ∧ (∀ j, j < k → basB (l[j]?.getD (0, 0, 0)) = true) ∧ New w wr) (fun i _ => n - (intOf i).toNat)
      case atStart => exact ⟨0, Nat.zero_le _, rfl, fun j hj => absurd hj (by omega), New.refl _⟩
      case round =>
        obtain ⟨k, hk, rfl, hpre, hnw⟩ := hrel
        have HP := Lib.hid hpre; clear hpre
        have NW := Lib.hid hnw; clear hnw
        by_cases hlt : k < n
        · obtain ⟨bx, ox, rfl, g0, g1, g2⟩ := (HA.out.new NW.out).2.2.2.1 k hlt
          by_cases hb : basB (l[k]?.getD (0, 0, 0)) = true
          · have HB := Lib.hid (show basB ((l[k]?.getD (0, 0, 0)).1, (l[k]?.getD (0, 0, 0)).2.1, (l[k]?.getD (0, 0, 0)).2.2) = true from hb)
            go_wp2_with fail
            refine (isBasin_any _ _ _ _).mono ?_
            rintro e w2 ⟨he, n2⟩
            rw [HB.out] at he
            subst he
            have N2 := Lib.hid (show New wr w2 from New.trans (by repeat (first | with_reducible exact New.refl _ | with_reducible assumption | refine New.drewN ?_ _ | refine New.drew ?_ | refine New.alloc ?_ _ | refine New.setCell ?_ (by first | omega | (simp; omega) | (simp; done)) _ | (refine New.trans ?_ (by assumption)))) n2); clear n2
            go_wp2
            go_roundw
            case rel =>
              refine ⟨k + 1, by omega, by go_num, fun j hj => ?_, NW.out.trans N2.out⟩
              by_cases e : j = k
              · subst e; exact hb
              · exact HP.out j (by omega)
            case measure => simp [intOf]; omega
          · have HB := Lib.hid (show basB ((l[k]?.getD (0, 0, 0)).1, (l[k]?.getD (0, 0, 0)).2.1, (l[k]?.getD (0, 0, 0)).2.2) = false from bool_no hb)
            have HF := Lib.hid (show rowB l = false from bool_no fun h => hb (basB_iff.2 ((rowB_iff.1 h).2.2 k (by have := HL.out; omega))))
            clear hb
            go_wp2_with fail
            refine (isBasin_any _ _ _ _).mono ?_
            rintro e w2 ⟨he, n2⟩
            rw [HB.out] at he
            subst he
            have N2 := Lib.hid (show New wr w2 from New.trans (by repeat (first | with_reducible exact New.refl _ | with_reducible assumption | refine New.drewN ?_ _ | refine New.drew ?_ | refine New.alloc ?_ _ | refine New.setCell ?_ (by first | omega | (simp; omega) | (simp; done)) _ | (refine New.trans ?_ (by assumption)))) n2); clear n2
            go_wp2
            go_ret
            exact ⟨ret_bool HF.out.symm, NW.out.trans N2.out⟩
        · have HF := Lib.hid (show rowB l = true from rowB_iff.2 ⟨by have := HL.out; omega, by have := HL.out; omega, fun j hj => basB_iff.1 (HP.out j (by have := HL.out; omega))⟩)
          go_wp2
          go_ret
          exact ⟨ret_bool HF.out.symm, NW.out⟩
    · have HF := Lib.hid (show rowB l = false from bool_no fun h => by have := (rowB_iff.1 h).2.1; have := HL.out; omega)
      go_enter Try.func21, Try.ntmps21
      go_wp2
      go_ret
      exact ⟨ret_bool HF.out.symm, New.refl _⟩
  · have HF := Lib.hid (show rowB l = false from bool_no fun h => by have := (rowB_iff.1 h).1; have := HL.out; omega)
    go_enter Try.func21, Try.ntmps21
    go_wp2
    go_ret
    exact ⟨ret_bool HF.out.symm, New.refl _⟩

theorem iAreFlows_any (w : World) (aa : Option Addr) (n ca : Nat) (xs : List Int) (ha : Ints w aa n ca xs) :
    Calls Try.prog 22 #[.slice aa n ca] w fun e w' => e = .returned (.bool (flowB xs)) ∧ New w w' := by
  have HL := Lib.hid ha.1
  have hm := ha.2.2.1
  have HA := Lib.hid ha; clear ha
  by_cases hn : n ≤ 60
  · have HE := Lib.hid (show flowB xs = allB 0 1000 xs by unfold flowB; rw [decide_eq_true (by have := HL.out; omega), Bool.true_and])
    go_enter Try.func22, Try.ntmps22
    go_wp2_with fail
    refine (areWithin_any _ _ _ _ xs _ _ HA.out).mono ?_
    rintro e w9 ⟨rfl, rfl⟩
    go_wp2
    go_ret
    exact ⟨ret_bool HE.out.symm, New.refl _⟩
  · have HE := Lib.hid (show flowB xs = false by unfold flowB; rw [decide_eq_false (by have := HL.out; omega), Bool.false_and])
    go_enter Try.func22, Try.ntmps22
    go_wp2
    go_ret
    exact ⟨ret_bool HE.out.symm, New.refl _⟩
end Go.Proofs.Ytchnnbkaiagpgaa
