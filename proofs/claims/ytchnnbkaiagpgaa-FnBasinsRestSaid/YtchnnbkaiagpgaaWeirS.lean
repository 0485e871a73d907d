/- The model's functions on one basin, rows and flows. -/
import Derived.Test.YtchnnbkaiagpgaaWeirI
namespace Go.Proofs.Ytchnnbkaiagpgaa
open Go.RowKit

theorem l1In_any (n lo hi : Int) (w : World) :
    Calls Try.prog 70 #[.int .i64 n, .int .i64 lo, .int .i64 hi] w fun e w' => e = .returned (.bool (inB lo hi n)) ∧ w = w' := by
  by_cases h1 : lo ≤ n
  · go_enter Try.func70, Try.ntmps70
    go_wp2
    go_ret
    exact ⟨ret_bool (by simp [inB, h1]), rfl⟩
  · have h2 : decide (lo ≤ n) = false := by simpa using h1
    go_enter Try.func70, Try.ntmps70
    go_wp2
    go_ret
    exact ⟨ret_bool (by unfold inB; rw [h2]; rfl), rfl⟩

theorem l1All_any (w : World) (aa : Option Addr) (n ca : Nat) (l : List Int) (lo hi : Int) (ha : Ints w aa n ca l) :
    Calls Try.prog 80 #[.slice aa n ca, .int .i64 lo, .int .i64 hi] w fun e w' => e = .returned (.bool (allB lo hi l)) ∧ w = w' := by
  have HA := Lib.hid ha; clear ha
  have hm := HA.out.2.2.1
  go_enter Try.func80, Try.ntmps80
  go_wp2
  go_loop [11] (fun i => ∃ k : Nat, k ≤ n ∧ i = .int .i64 k ∧ ∀ j, j < k → inB lo hi (l[j]?.getD 0) = true) (fun i => n - (intOf i).toNat)
  case atStart => exact ⟨0, Nat.zero_le _, rfl, fun j hj => absurd hj (by omega)⟩
  case round =>
    obtain ⟨k, hk, rfl, hpre⟩ := hrel
    have HP := Lib.hid hpre; clear hpre
    by_cases hlt : k < n
    · obtain ⟨b, o, rfl, hc, _⟩ := HA.out.at hlt
      go_wp2_with (go_at_call 70; refine (l1In_any _ _ _ _).mono ?_; rintro e w' ⟨rfl, rfl⟩)
      · have hb : inB lo hi (l[k]?.getD 0) = false := by rw [← Bool.not_eq_true']; assumption
        go_ret
        refine ⟨ret_bool ?_, rfl⟩
        symm
        rw [← Bool.not_eq_true, allB_iff]
        intro h
        rw [inB_false] at hb
        exact hb (h k (by have := HA.out.len; omega))
      · have hb : inB lo hi (l[k]?.getD 0) = true := by rw [← Bool.not_eq_false']; assumption
        go_round
        case rel =>
          refine ⟨k + 1, by omega, by go_num, fun j hj => ?_⟩
          by_cases e : j = k
          · subst e; exact hb
          · exact HP.out j (by omega)
        case measure => simp [intOf]; omega
    · go_wp2
      go_ret
      refine ⟨ret_bool ?_, rfl⟩
      symm
      rw [allB_iff]
      intro j hj
      exact inB_iff.1 (HP.out j (by have := HA.out.len; omega))

theorem l1Least_any (a b : Int) (w : World) : Calls Try.prog 81 #[.int .i64 a, .int .i64 b] w fun e w' => e = .returned (.int .i64 (min a b)) ∧ w = w' := by
  by_cases h : a < b
  · go_enter Try.func81, Try.ntmps81
    go_wp2
    go_ret
    exact ⟨ret_int (by omega), rfl⟩
  · go_enter Try.func81, Try.ntmps81
    go_wp2
    go_ret
    exact ⟨ret_int (by omega), rfl⟩

theorem l1Most_any (a b : Int) (w : World) : Calls Try.prog 56 #[.int .i64 a, .int .i64 b] w fun e w' => e = .returned (.int .i64 (max a b)) ∧ w = w' := by
  by_cases h : a > b
  · go_enter Try.func56, Try.ntmps56
    go_wp2
    go_ret
    exact ⟨ret_int (by omega), rfl⟩
  · go_enter Try.func56, Try.ntmps56
    go_wp2
    go_ret
    exact ⟨ret_int (by omega), rfl⟩

theorem weBasin_any (w : World) (a o u : Int) :
    Calls Try.prog 79 #[basV a o u] w fun e w' => e = .returned (.bool (basB (a, o, u))) ∧ New w w' := by
  by_cases h1 : inB 1 1000 a = true
  · by_cases h2 : inB 0 1000 o = true
    · go_enter Try.func79, Try.ntmps79
      go_wp2_with fail
      refine (l1In_any _ _ _ _).mono ?_
      rintro e w9 ⟨rfl, rfl⟩
      go_wp2_with fail
      refine (l1In_any _ _ _ _).mono ?_
      rintro e w9 ⟨rfl, rfl⟩
      go_wp2_with fail
      refine (l1In_any _ _ _ _).mono ?_
      rintro e w9 ⟨rfl, rfl⟩
      go_wp2
      go_ret
      exact ⟨ret_bool (by unfold basB; simp only; rw [h1, h2]; rfl), (by repeat (first | with_reducible exact New.refl _ | with_reducible assumption | refine New.drewN ?_ _ | refine New.drew ?_ | refine New.alloc ?_ _ | refine New.setCell ?_ (by first | omega | (simp; omega) | (simp; done)) _ | (refine New.trans ?_ (by assumption))))⟩
    · have h2f : inB 0 1000 o = false := bool_no h2
      go_enter Try.func79, Try.ntmps79
      go_wp2_with fail
      refine (l1In_any _ _ _ _).mono ?_
      rintro e w9 ⟨rfl, rfl⟩
      go_wp2_with fail
      refine (l1In_any _ _ _ _).mono ?_
      rintro e w9 ⟨rfl, rfl⟩
      go_wp2
      go_ret
      exact ⟨ret_bool (by unfold basB; simp only; rw [h1, h2f]; rfl), (by repeat (first | with_reducible exact New.refl _ | with_reducible assumption | refine New.drewN ?_ _ | refine New.drew ?_ | refine New.alloc ?_ _ | refine New.setCell ?_ (by first | omega | (simp; omega) | (simp; done)) _ | (refine New.trans ?_ (by assumption))))⟩
  · have h1f : inB 1 1000 a = false := bool_no h1
    go_enter Try.func79, Try.ntmps79
    go_wp2_with fail
    refine (l1In_any _ _ _ _).mono ?_
    rintro e w9 ⟨rfl, rfl⟩
    go_wp2
    go_ret
    exact ⟨ret_bool (by unfold basB; simp only; rw [h1f]; rfl), (by repeat (first | with_reducible exact New.refl _ | with_reducible assumption | refine New.drewN ?_ _ | refine New.drew ?_ | refine New.alloc ?_ _ | refine New.setCell ?_ (by first | omega | (simp; omega) | (simp; done)) _ | (refine New.trans ?_ (by assumption))))⟩

set_option maxHeartbeats 2000000 in
theorem weRow_any (w : World) (aa : Option Addr) (n ca : Nat) (l : List (Int × Int × Int)) (ha : Basins w aa n ca l) :
    Calls Try.prog 64 #[.slice aa n ca] w fun e w' => e = .returned (.bool (rowB l)) ∧ New w w' := by
  have HL := Lib.hid ha.1
  have hm := ha.2.2.1
  have HA := Lib.hid ha; clear ha
  by_cases hi : inB 1 6 (n : Int) = true
  · obtain ⟨h1, h6⟩ := inB_iff.1 hi
    · go_enter Try.func64, Try.ntmps64
      go_wp2_with fail
      refine (l1In_any _ _ _ _).mono ?_
      rintro e w9 ⟨rfl, rfl⟩
      go_wp2
      clear hi
      go_loopw [11] (fun i wr => ∃ k : Nat, k ≤ n ∧ i = .int .i64 k ∧ (∀ j, j < k → basB (l[j]?.getD (0, 0, 0)) = true) ∧ New w wr) (fun i _ => n - (intOf i).toNat)
      case atStart => exact ⟨0, Nat.zero_le _, rfl, fun j hj => absurd hj (by omega), New.refl _⟩
      case round =>
        obtain ⟨k, hk, rfl, hpre, hnw⟩ := hrel
        have HP := Lib.hid hpre; clear hpre
        have NW := Lib.hid hnw; clear hnw
        by_cases hlt : k < n
        · obtain ⟨bx, ox, rfl, g0, g1, g2⟩ := (HA.out.new NW.out).2.2.2.1 k hlt
          by_cases hb : basB (l[k]?.getD (0, 0, 0)) = true
          · have HB := Lib.hid (show basB ((l[k]?.getD (0, 0, 0)).1, (l[k]?.getD (0, 0, 0)).2.1, (l[k]?.getD (0, 0, 0)).2.2) = true from hb)
            go_wp2_with fail
            refine (weBasin_any _ _ _ _).mono ?_
            rintro e w2 ⟨he, n2⟩
            rw [HB.out] at he
            subst he
            have N2 := Lib.hid (show New wr w2 from New.trans (by repeat (first | with_reducible exact New.refl _ | with_reducible assumption | refine New.drewN ?_ _ | refine New.drew ?_ | refine New.alloc ?_ _ | refine New.setCell ?_ (by first | omega | (simp; omega) | (simp; done)) _ | (refine New.trans ?_ (by assumption)))) n2); clear n2
            go_wp2
            go_roundw
            case rel =>
              refine ⟨k + 1, by omega, by go_num, fun j hj => ?_, NW.out.trans N2.out⟩
              by_cases e : j = k
              · subst e; exact hb
              · exact HP.out j (by omega)
            case measure => simp [intOf]; omega
          · have HB := Lib.hid (show basB ((l[k]?.getD (0, 0, 0)).1, (l[k]?.getD (0, 0, 0)).2.1, (l[k]?.getD (0, 0, 0)).2.2) = false from bool_no hb)
            have HF := Lib.hid (show rowB l = false from bool_no fun h => hb (basB_iff.2 ((rowB_iff.1 h).2.2 k (by have := HL.out; omega))))
            clear hb
            go_wp2_with fail
            refine (weBasin_any _ _ _ _).mono ?_
            rintro e w2 ⟨he, n2⟩
            rw [HB.out] at he
            subst he
            have N2 := Lib.hid (show New wr w2 from New.trans (by repeat (first | with_reducible exact New.refl _ | with_reducible assumption | refine New.drewN ?_ _ | refine New.drew ?_ | refine New.alloc ?_ _ | refine New.setCell ?_ (by first | omega | (simp; omega) | (simp; done)) _ | (refine New.trans ?_ (by assumption)))) n2); clear n2
            go_wp2
            go_ret
            exact ⟨ret_bool HF.out.symm, NW.out.trans N2.out⟩
        · have HF := Lib.hid (show rowB l = true from rowB_iff.2 ⟨by have := HL.out; omega, by have := HL.out; omega, fun j hj => basB_iff.1 (HP.out j (by have := HL.out; omega))⟩)
          go_wp2
          go_ret
          exact ⟨ret_bool HF.out.symm, NW.out⟩
  · have hi' : inB 1 6 (n : Int) = false := by simpa using hi
    have hn := inB_false.1 hi'
    have HF := Lib.hid (show rowB l = false from bool_no fun h => hn (by have := rowB_iff.1 h; have := HL.out; have q1 := this; have q2 := (rowB_iff.1 h).1; have q3 := (rowB_iff.1 h).2.1; omega))
    clear hn hi
    go_enter Try.func64, Try.ntmps64
    go_wp2_with fail
    refine (l1In_any _ _ _ _).mono ?_
    rintro e w9 ⟨rfl, rfl⟩
    go_wp2
    go_ret
    exact ⟨ret_bool HF.out.symm, New.refl _⟩

theorem weFlows_any (w : World) (aa : Option Addr) (n ca : Nat) (xs : List Int) (ha : Ints w aa n ca xs) :
    Calls Try.prog 66 #[.slice aa n ca] w fun e w' => e = .returned (.bool (flowB xs)) ∧ New w w' := by
  have HL := Lib.hid ha.1
  have hm := ha.2.2.1
  have HA := Lib.hid ha; clear ha
  by_cases hn : n ≤ 60
  · have HE := Lib.hid (show flowB xs = allB 0 1000 xs by unfold flowB; rw [decide_eq_true (by have := HL.out; omega), Bool.true_and])
    go_enter Try.func66, Try.ntmps66
    go_wp2_with fail
    refine (l1All_any _ _ _ _ xs _ _ HA.out).mono ?_
    rintro e w9 ⟨rfl, rfl⟩
    go_wp2
    go_ret
    exact ⟨ret_bool HE.out.symm, New.refl _⟩
  · have hf : decide ((n : Int) ≤ 60) = false := decide_eq_false (by omega)
    have HE := Lib.hid (show flowB xs = false by unfold flowB; rw [decide_eq_false (by have := HL.out; omega), Bool.false_and])
    go_enter Try.func66, Try.ntmps66
    go_wp2
    go_ret
    exact ⟨ret_bool HE.out.symm, New.refl _⟩

theorem sIsRow_any (w : World) (aa : Option Addr) (n ca : Nat) (l : List (Int × Int × Int)) (ha : Basins w aa n ca l) :
    Calls Try.prog 38 #[.slice aa n ca] w fun e w' => e = .returned (.bool (rowB l)) ∧ New w w' := by
  have HA := Lib.hid ha; clear ha
  go_enter Try.func38, Try.ntmps38
  go_wp2_with fail
  refine (weRow_any _ _ _ _ l HA.out).mono ?_
  rintro e w1 ⟨rfl, n1⟩
  go_wp2
  go_ret
  exact ⟨rfl, n1⟩

theorem sAreFlows_any (w : World) (aa : Option Addr) (n ca : Nat) (l : List Int) (ha : Ints w aa n ca l) :
    Calls Try.prog 33 #[.slice aa n ca] w fun e w' => e = .returned (.bool (flowB l)) ∧ New w w' := by
  have HA := Lib.hid ha; clear ha
  go_enter Try.func33, Try.ntmps33
  go_wp2_with fail
  refine (weFlows_any _ _ _ _ l HA.out).mono ?_
  rintro e w1 ⟨rfl, n1⟩
  go_wp2
  go_ret
  exact ⟨rfl, n1⟩

theorem weAsked_any (w : World) (aa : Option Addr) (n ca : Nat) (l : List (Int × Int × Int)) (ab : Option Addr) (m cb : Nat) (xs : List Int) (ha : Basins w aa n ca l) (hx : Ints w ab m cb xs) :
    Calls Try.prog 51 #[.slice aa n ca, .slice ab m cb] w fun e w' => e = .returned (.bool (askB l xs)) ∧ New w w' := by
  have HA := Lib.hid ha; clear ha
  have HX := Lib.hid hx; clear hx
  by_cases h : rowB l = true
  · go_enter Try.func51, Try.ntmps51
    go_wp2_with fail
    refine (weRow_any _ _ _ _ l HA.out).mono ?_
    rintro e w1 ⟨rfl, n1⟩
    go_wp2_with fail
    refine (weFlows_any _ _ _ _ xs (HX.out.new n1)).mono ?_
    rintro e w2 ⟨rfl, n2⟩
    go_wp2
    go_ret
    exact ⟨ret_bool (by unfold askB; rw [h]; rfl), n1.trans n2⟩
  · have hf : rowB l = false := bool_no h
    go_enter Try.func51, Try.ntmps51
    go_wp2_with fail
    refine (weRow_any _ _ _ _ l HA.out).mono ?_
    rintro e w1 ⟨rfl, n1⟩
    go_wp2
    go_ret
    exact ⟨ret_bool (by unfold askB; rw [hf]; rfl), n1⟩
end Go.Proofs.Ytchnnbkaiagpgaa
