/- The small functions of clocks and wheels: the model's and the program's. -/
import Derived.Test.YtnahlemchajfdaaClk
import Derived.Deep.RegionHeld3
import Derived.Deep.DeepCutAuto
namespace Go.Proofs.Ytnahlemchajfdaa
open Go.RowKit Go.IntWalk

theorem l1In_any (n lo hi : Int) (w : World) :
    Calls Try.prog 37 #[.int .i64 n, .int .i64 lo, .int .i64 hi] w fun e w' => e = .returned (.bool (inB lo hi n)) ∧ w = w' := by
  by_cases h1 : lo ≤ n
  · go_enter Try.func37, Try.ntmps37
    go_wp2
    go_ret
    exact ⟨ret_bool (by simp [inB, h1]), rfl⟩
  · have h2 : decide (lo ≤ n) = false := by simpa using h1
    go_enter Try.func37, Try.ntmps37
    go_wp2
    go_ret
    exact ⟨ret_bool (by unfold inB; rw [h2]; rfl), rfl⟩

theorem ckTime_any (t : Int) (w : World) :
    Calls Try.prog 27 #[.int .i64 t] w fun e w' => e = .returned (.bool (tmB t)) ∧ w = w' := by
  go_enter Try.func27, Try.ntmps27
  go_wp2_with fail
  refine (l1In_any _ _ _ _).mono ?_
  rintro e w1 ⟨rfl, rfl⟩
  go_wp2
  go_ret
  exact ⟨rfl, rfl⟩

theorem isDivide_any (n : Int) (w : World) :
    Calls Try.prog 39 #[.int .i64 n] w fun e w' => e = .returned (.bool (inB 1 100 n)) ∧ w = w' := by
  by_cases h1 : 1 ≤ n
  · go_enter Try.func39, Try.ntmps39
    go_wp2
    go_ret
    exact ⟨ret_bool (by simp [inB, h1]), rfl⟩
  · have h2 : decide (1 ≤ n) = false := by simpa using h1
    go_enter Try.func39, Try.ntmps39
    go_wp2
    go_ret
    exact ⟨ret_bool (by unfold inB; rw [h2]; rfl), rfl⟩

theorem isTime_any (n : Int) (w : World) :
    Calls Try.prog 30 #[.int .i64 n] w fun e w' => e = .returned (.bool (tmB n)) ∧ w = w' := by
  by_cases h1 : 0 ≤ n
  · go_enter Try.func30, Try.ntmps30
    go_wp2
    go_ret
    exact ⟨ret_bool (by simp [tmB, inB, h1]), rfl⟩
  · have h2 : decide (0 ≤ n) = false := by simpa using h1
    go_enter Try.func30, Try.ntmps30
    go_wp2
    go_ret
    exact ⟨ret_bool (by unfold tmB; unfold inB; rw [h2]; rfl), rfl⟩

theorem quotientUp_any (a b : Int) (w : World) (h0 : 0 ≤ a) (h1 : a ≤ 1000000) (h2 : 1 ≤ b) (h3 : b ≤ 1000000) :
    Calls Try.prog 42 #[.int .i64 a, .int .i64 b] w fun e w' => e = .returned (.int .i64 (qUp a b)) ∧ w = w' := by
  have q := qUp_bd h0 h2
  have d0 : ¬ b = 0 := by omega
  have e : (a + b - 1) / b = qUp a b := rfl
  obtain ⟨q', hq⟩ : ∃ q', q' = qUp a b := ⟨_, rfl⟩
  rw [← hq] at q e ⊢
  clear hq
  have w1 : IntKind.i64.wrap ((a + b - 1).tdiv b) = q' := by rw [Int.tdiv_eq_ediv_of_nonneg (by omega), e]; exact i64_in _ (by omega)
  go_enter Try.func42, Try.ntmps42
  go_wp2
  go_ret
  exact ⟨by first | rfl | rw [← e], rfl⟩

theorem ckGood_any (L D : Int) (w : World) :
    Calls Try.prog 26 #[.agg #[.int .i64 L, .int .i64 D]] w fun e w' => e = .returned (.bool (ckB L D)) ∧ New w w' := by
  by_cases h1 : inB 0 1000 L = true
  · go_enter Try.func26, Try.ntmps26
    go_wp2_with fail
    refine (l1In_any _ _ _ _).mono ?_
    rintro e w1 ⟨rfl, rfl⟩
    rw [h1]
    go_wp2_with fail
    refine (l1In_any _ _ _ _).mono ?_
    rintro e w1 ⟨rfl, rfl⟩
    go_wp2
    go_ret
    exact ⟨ret_bool (by unfold ckB; rw [h1]; rfl), (by repeat (first | with_reducible exact New.refl _ | with_reducible assumption | refine New.drewN ?_ _ | refine New.drew ?_ | refine New.alloc ?_ _ | refine New.setCell ?_ (by first | omega | (simp; omega) | (simp; done)) _ | (refine New.trans ?_ (by assumption))))⟩
  · have h2 : inB 0 1000 L = false := by simpa using h1
    go_enter Try.func26, Try.ntmps26
    go_wp2_with fail
    refine (l1In_any _ _ _ _).mono ?_
    rintro e w1 ⟨rfl, rfl⟩
    rw [h2]
    go_wp2
    go_ret
    exact ⟨ret_bool (by unfold ckB; rw [h2]; rfl), (by repeat (first | with_reducible exact New.refl _ | with_reducible assumption | refine New.drewN ?_ _ | refine New.drew ?_ | refine New.alloc ?_ _ | refine New.setCell ?_ (by first | omega | (simp; omega) | (simp; done)) _ | (refine New.trans ?_ (by assumption))))⟩

theorem iIsClock_any (w : World) (L D : Int) :
    Calls Try.prog 29 #[.agg #[.int .i64 L, .int .i64 D]] w fun e w' => e = .returned (.bool (ckB L D)) ∧ New w w' := by
  by_cases h1 : 0 ≤ L
  · by_cases h2 : L ≤ 1000
    · go_enter Try.func29, Try.ntmps29
      go_wp2_with fail
      refine (isDivide_any _ _).mono ?_
      rintro e w1 ⟨rfl, rfl⟩
      go_wp2
      go_ret
      exact ⟨ret_bool (by unfold ckB; rw [inB_iff.2 ⟨h1, h2⟩]; rfl), (by repeat (first | with_reducible exact New.refl _ | with_reducible assumption | refine New.drewN ?_ _ | refine New.drew ?_ | refine New.alloc ?_ _ | refine New.setCell ?_ (by first | omega | (simp; omega) | (simp; done)) _ | (refine New.trans ?_ (by assumption))))⟩
    · have h2f : decide (L ≤ 1000) = false := by simpa using h2
      go_enter Try.func29, Try.ntmps29
      go_wp2
      go_ret
      exact ⟨ret_bool (by unfold ckB; rw [inB_false.2 (by omega)]; rfl), (by repeat (first | with_reducible exact New.refl _ | with_reducible assumption | refine New.drewN ?_ _ | refine New.drew ?_ | refine New.alloc ?_ _ | refine New.setCell ?_ (by first | omega | (simp; omega) | (simp; done)) _ | (refine New.trans ?_ (by assumption))))⟩
  · have h1f : decide (0 ≤ L) = false := by simpa using h1
    go_enter Try.func29, Try.ntmps29
    go_wp2
    go_ret
    exact ⟨ret_bool (by unfold ckB; rw [inB_false.2 (by omega)]; rfl), (by repeat (first | with_reducible exact New.refl _ | with_reducible assumption | refine New.drewN ?_ _ | refine New.drew ?_ | refine New.alloc ?_ _ | refine New.setCell ?_ (by first | omega | (simp; omega) | (simp; done)) _ | (refine New.trans ?_ (by assumption))))⟩

theorem ckDrop_any (L D : Int) (w : World) (h0 : 0 ≤ L) (h1 : L ≤ 1000000) (h2 : 1 ≤ D) (h3 : D ≤ 1000000) :
    Calls Try.prog 38 #[.agg #[.int .i64 L, .int .i64 D]] w fun e w' => e = .returned (.int .i64 (qUp L D)) ∧ New w w' := by
  have q := qUp_bd h0 h2
  have d0 : ¬ D = 0 := by omega
  have e : (L + D - 1) / D = qUp L D := rfl
  obtain ⟨q', hq⟩ : ∃ q', q' = qUp L D := ⟨_, rfl⟩
  rw [← hq] at q e ⊢
  clear hq
  have w1 : IntKind.i64.wrap ((L + D - 1).tdiv D) = q' := by rw [Int.tdiv_eq_ediv_of_nonneg (by omega), e]; exact i64_in _ (by omega)
  go_enter Try.func38, Try.ntmps38
  go_wp2
  go_ret
  exact ⟨by first | rfl | rw [← e], (by repeat (first | with_reducible exact New.refl _ | with_reducible assumption | refine New.drewN ?_ _ | refine New.drew ?_ | refine New.alloc ?_ _ | refine New.setCell ?_ (by first | omega | (simp; omega) | (simp; done)) _ | (refine New.trans ?_ (by assumption))))⟩

def doM (L D : Int) : Int := if ckB L D then qUp L D else 0
end Go.Proofs.Ytnahlemchajfdaa
