/- The small functions of clocks and wheels: the model's and the program's. -/
import Derived.Test.YtjkfedhpgionjaaClk
import Derived.Deep.RegionHeld3
import Derived.Deep.DeepCutAuto
namespace Go.Proofs.Ytjkfedhpgionjaa
open Go.RowKit Go.IntWalk

theorem l1In_any (n lo hi : Int) (w : World) :
    Calls Try.prog 36 #[.int .i64 n, .int .i64 lo, .int .i64 hi] w fun e w' => e = .returned (.bool (inB lo hi n)) ∧ w = w' := by
  by_cases h1 : lo ≤ n
  · go_enter Try.func36, Try.ntmps36
    go_wp2
    go_ret
    exact ⟨ret_bool (by simp [inB, h1]), rfl⟩
  · have h2 : decide (lo ≤ n) = false := by simpa using h1
    go_enter Try.func36, Try.ntmps36
    go_wp2
    go_ret
    exact ⟨ret_bool (by unfold inB; rw [h2]; rfl), rfl⟩
theorem ckTime_any (t : Int) (w : World) :
    Calls Try.prog 37 #[.int .i64 t] w fun e w' => e = .returned (.bool (tmB t)) ∧ w = w' := by
  go_enter Try.func37, Try.ntmps37
  go_wp2_with fail
  refine (l1In_any _ _ _ _).mono ?_
  rintro e w1 ⟨rfl, rfl⟩
  go_wp2
  go_ret
  exact ⟨rfl, rfl⟩

theorem isDivide_any (n : Int) (w : World) :
    Calls Try.prog 33 #[.int .i64 n] w fun e w' => e = .returned (.bool (inB 1 100 n)) ∧ w = w' := by
  by_cases h1 : 1 ≤ n
  · go_enter Try.func33, Try.ntmps33
    go_wp2
    go_ret
    exact ⟨ret_bool (by simp [inB, h1]), rfl⟩
  · have h2 : decide (1 ≤ n) = false := by simpa using h1
    go_enter Try.func33, Try.ntmps33
    go_wp2
    go_ret
    exact ⟨ret_bool (by unfold inB; rw [h2]; rfl), rfl⟩

theorem isTime_any (n : Int) (w : World) :
    Calls Try.prog 39 #[.int .i64 n] w fun e w' => e = .returned (.bool (tmB n)) ∧ w = w' := by
  by_cases h1 : 0 ≤ n
  · go_enter Try.func39, Try.ntmps39
    go_wp2
    go_ret
    exact ⟨ret_bool (by simp [tmB, inB, h1]), rfl⟩
  · have h2 : decide (0 ≤ n) = false := by simpa using h1
    go_enter Try.func39, Try.ntmps39
    go_wp2
    go_ret
    exact ⟨ret_bool (by unfold tmB; unfold inB; rw [h2]; rfl), rfl⟩

theorem quotientUp_any (a b : Int) (w : World) (h0 : 0 ≤ a) (h1 : a ≤ 1000000) (h2 : 1 ≤ b) (h3 : b ≤ 1000000) :
    Calls Try.prog 35 #[.int .i64 a, .int .i64 b] w fun e w' => e = .returned (.int .i64 (qUp a b)) ∧ w = w' := by
  have q := qUp_bd h0 h2
  have d0 : ¬ b = 0 := by omega
  have e : (a + b - 1) / b = qUp a b := rfl
  obtain ⟨q', hq⟩ : ∃ q', q' = qUp a b := ⟨_, rfl⟩
  rw [← hq] at q e ⊢
  clear hq
  have w1 : IntKind.i64.wrap ((a + b - 1).tdiv b) = q' := by rw [Int.tdiv_eq_ediv_of_nonneg (by omega), e]; exact i64_in _ (by omega)
  go_enter Try.func35, Try.ntmps35
  go_wp2
  go_ret
  exact ⟨by first | rfl | rw [← e], rfl⟩
theorem ckGood_any (L D : Int) (w : World) :
    Calls Try.prog 32 #[.agg #[.int .i64 L, .int .i64 D]] w fun e w' => e = .returned (.bool (ckB L D)) ∧ New w w' := by
  by_cases h1 : inB 0 1000 L = true
  · go_enter Try.func32, Try.ntmps32
    go_wp2_with fail
    refine (l1In_any _ _ _ _).mono ?_
    rintro e w1 ⟨rfl, rfl⟩
    rw [h1]
    go_wp2_with fail
    refine (l1In_any _ _ _ _).mono ?_
    rintro e w1 ⟨rfl, rfl⟩
    go_wp2
    go_ret
    exact ⟨ret_bool (by unfold ckB; rw [h1]; rfl), (by repeat (first | with_reducible exact New.refl _ | with_reducible assumption | refine New.drewN ?_ _ | refine New.drew ?_ | refine New.alloc ?_ _ | refine New.setCell ?_ (by first | omega | (simp; omega) | (simp; done)) _ | (refine New.trans ?_ (by assumption))))⟩
  · have h2 : inB 0 1000 L = false := by simpa using h1
    go_enter Try.func32, Try.ntmps32
    go_wp2_with fail
    refine (l1In_any _ _ _ _).mono ?_
    rintro e w1 ⟨rfl, rfl⟩
    rw [h2]
    go_wp2
    go_ret
    exact ⟨ret_bool (by unfold ckB; rw [h2]; rfl), (by repeat (first | with_reducible exact New.refl _ | with_reducible assumption | refine New.drewN ?_ _ | refine New.drew ?_ | refine New.alloc ?_ _ | refine New.setCell ?_ (by first | omega | (simp; omega) | (simp; done)) _ | (refine New.trans ?_ (by assumption))))⟩
theorem sIsClock_any (w : World) (L D : Int) :
    Calls Try.prog 11 #[.agg #[.int .i64 L, .int .i64 D]] w fun e w' => e = .returned (.bool (ckB L D)) ∧ New w w' := by
  go_enter Try.func11, Try.ntmps11
  go_wp2_with fail
  refine (ckGood_any _ _ _).mono ?_
  rintro e w1 ⟨rfl, n1⟩
  go_wp2
  go_ret
  exact ⟨rfl, New.trans (by repeat (first | with_reducible exact New.refl _ | with_reducible assumption | refine New.drewN ?_ _ | refine New.drew ?_ | refine New.alloc ?_ _ | refine New.setCell ?_ (by first | omega | (simp; omega) | (simp; done)) _ | (refine New.trans ?_ (by assumption)))) n1⟩
theorem iIsClock_any (w : World) (L D : Int) :
    Calls Try.prog 13 #[.agg #[.int .i64 L, .int .i64 D]] w fun e w' => e = .returned (.bool (ckB L D)) ∧ New w w' := by
  by_cases h1 : 0 ≤ L
  · by_cases h2 : L ≤ 1000
    · go_enter Try.func13, Try.ntmps13
      go_wp2_with fail
      refine (isDivide_any _ _).mono ?_
      rintro e w1 ⟨rfl, rfl⟩
      go_wp2
      go_ret
      exact ⟨ret_bool (by unfold ckB; rw [inB_iff.2 ⟨h1, h2⟩]; rfl), (by repeat (first | with_reducible exact New.refl _ | with_reducible assumption | refine New.drewN ?_ _ | refine New.drew ?_ | refine New.alloc ?_ _ | refine New.setCell ?_ (by first | omega | (simp; omega) | (simp; done)) _ | (refine New.trans ?_ (by assumption))))⟩
    · have h2f : decide (L ≤ 1000) = false := by simpa using h2
      go_enter Try.func13, Try.ntmps13
      go_wp2
      go_ret
      exact ⟨ret_bool (by unfold ckB; rw [inB_false.2 (by omega)]; rfl), (by repeat (first | with_reducible exact New.refl _ | with_reducible assumption | refine New.drewN ?_ _ | refine New.drew ?_ | refine New.alloc ?_ _ | refine New.setCell ?_ (by first | omega | (simp; omega) | (simp; done)) _ | (refine New.trans ?_ (by assumption))))⟩
  · have h1f : decide (0 ≤ L) = false := by simpa using h1
    go_enter Try.func13, Try.ntmps13
    go_wp2
    go_ret
    exact ⟨ret_bool (by unfold ckB; rw [inB_false.2 (by omega)]; rfl), (by repeat (first | with_reducible exact New.refl _ | with_reducible assumption | refine New.drewN ?_ _ | refine New.drew ?_ | refine New.alloc ?_ _ | refine New.setCell ?_ (by first | omega | (simp; omega) | (simp; done)) _ | (refine New.trans ?_ (by assumption))))⟩
theorem ckDrop_any (L D : Int) (w : World) (h0 : 0 ≤ L) (h1 : L ≤ 1000000) (h2 : 1 ≤ D) (h3 : D ≤ 1000000) :
    Calls Try.prog 34 #[.agg #[.int .i64 L, .int .i64 D]] w fun e w' => e = .returned (.int .i64 (qUp L D)) ∧ New w w' := by
  have q := qUp_bd h0 h2
  have d0 : ¬ D = 0 := by omega
  have e : (L + D - 1) / D = qUp L D := rfl
  obtain ⟨q', hq⟩ : ∃ q', q' = qUp L D := ⟨_, rfl⟩
  rw [← hq] at q e ⊢
  clear hq
  have w1 : IntKind.i64.wrap ((L + D - 1).tdiv D) = q' := by rw [Int.tdiv_eq_ediv_of_nonneg (by omega), e]; exact i64_in _ (by omega)
  go_enter Try.func34, Try.ntmps34
  go_wp2
  go_ret
  exact ⟨by first | rfl | rw [← e], (by repeat (first | with_reducible exact New.refl _ | with_reducible assumption | refine New.drewN ?_ _ | refine New.drew ?_ | refine New.alloc ?_ _ | refine New.setCell ?_ (by first | omega | (simp; omega) | (simp; done)) _ | (refine New.trans ?_ (by assumption))))⟩
def doM (L D : Int) : Int := if ckB L D then qUp L D else 0

theorem sDropOf_any (w : World) (L D : Int) :
    Calls Try.prog 14 #[.agg #[.int .i64 L, .int .i64 D]] w fun e w' => e = .returned (.tuple #[.int .i64 (doM L D), .bool (ckB L D)]) ∧ New w w' := by
  by_cases h : ckB L D = true
  · have q := ckB_iff.1 h
    have HM := Lib.hid (show doM L D = qUp L D by unfold doM; rw [if_pos h])
    have H := Lib.hid h; clear h
    go_enter Try.func14, Try.ntmps14
    go_wp2_with fail
    refine (ckGood_any _ _ _).mono ?_
    rintro e w1 ⟨rfl, n1⟩
    have c0 : w1.cell? ⟨w.heap.size, 0, none⟩ = some (.int .i64 L) := n1.cell (by simp [go_sem])
    have c1 : w1.cell? ⟨w.heap.size, 1, none⟩ = some (.int .i64 D) := n1.cell (by simp [go_sem])
    have N1 := Lib.hid (show New w w1 from New.trans (by repeat (first | with_reducible exact New.refl _ | with_reducible assumption | refine New.drewN ?_ _ | refine New.drew ?_ | refine New.alloc ?_ _ | refine New.setCell ?_ (by first | omega | (simp; omega) | (simp; done)) _ | (refine New.trans ?_ (by assumption)))) n1); clear n1
    rw [H.out]
    go_wp2_with fail
    refine (ckDrop_any _ _ _ (by omega) (by omega) (by omega) (by omega)).mono ?_
    rintro e w2 ⟨rfl, n2⟩
    go_wp2
    go_ret2
    exact ⟨by rw [HM.out, H.out]; rfl, N1.out.trans n2⟩
  · have hf := bool_nt h
    have HM := Lib.hid (show doM L D = 0 by unfold doM; rw [hf]; rfl)
    have H := Lib.hid hf; clear h hf
    go_enter Try.func14, Try.ntmps14
    go_wp2_with fail
    refine (ckGood_any _ _ _).mono ?_
    rintro e w1 ⟨rfl, n1⟩
    rw [H.out]
    go_wp2
    go_ret2
    exact ⟨by rw [HM.out, H.out]; rfl, New.trans (by repeat (first | with_reducible exact New.refl _ | with_reducible assumption | refine New.drewN ?_ _ | refine New.drew ?_ | refine New.alloc ?_ _ | refine New.setCell ?_ (by first | omega | (simp; omega) | (simp; done)) _ | (refine New.trans ?_ (by assumption)))) n1⟩

theorem iDropOf_any (w : World) (L D : Int) :
    Calls Try.prog 15 #[.agg #[.int .i64 L, .int .i64 D]] w fun e w' => e = .returned (.tuple #[.int .i64 (doM L D), .bool (ckB L D)]) ∧ New w w' := by
  by_cases h : ckB L D = true
  · have q := ckB_iff.1 h
    have HM := Lib.hid (show doM L D = qUp L D by unfold doM; rw [if_pos h])
    have H := Lib.hid h; clear h
    go_enter Try.func15, Try.ntmps15
    go_wp2_with fail
    refine (iIsClock_any _ _ _).mono ?_
    rintro e w1 ⟨rfl, n1⟩
    have c0 : w1.cell? ⟨w.heap.size, 0, none⟩ = some (.int .i64 L) := n1.cell (by simp [go_sem])
    have c1 : w1.cell? ⟨w.heap.size, 1, none⟩ = some (.int .i64 D) := n1.cell (by simp [go_sem])
    have N1 := Lib.hid (show New w w1 from New.trans (by repeat (first | with_reducible exact New.refl _ | with_reducible assumption | refine New.drewN ?_ _ | refine New.drew ?_ | refine New.alloc ?_ _ | refine New.setCell ?_ (by first | omega | (simp; omega) | (simp; done)) _ | (refine New.trans ?_ (by assumption)))) n1); clear n1
    rw [H.out]
    go_wp2_with fail
    refine (quotientUp_any _ _ _ (by omega) (by omega) (by omega) (by omega)).mono ?_
    rintro e w2 ⟨rfl, n2⟩
    go_wp2
    go_ret2
    exact ⟨by rw [HM.out, H.out]; rfl, n2 ▸ N1.out⟩
  · have hf := bool_nt h
    have HM := Lib.hid (show doM L D = 0 by unfold doM; rw [hf]; rfl)
    have H := Lib.hid hf; clear h hf
    go_enter Try.func15, Try.ntmps15
    go_wp2_with fail
    refine (iIsClock_any _ _ _).mono ?_
    rintro e w1 ⟨rfl, n1⟩
    rw [H.out]
    go_wp2
    go_ret2
    exact ⟨by rw [HM.out, H.out]; rfl, New.trans (by repeat (first | with_reducible exact New.refl _ | with_reducible assumption | refine New.drewN ?_ _ | refine New.drew ?_ | refine New.alloc ?_ _ | refine New.setCell ?_ (by first | omega | (simp; omega) | (simp; done)) _ | (refine New.trans ?_ (by assumption)))) n1⟩

theorem ckWheel_any (S R V : Int) (w : World) :
    Calls Try.prog 40 #[.agg #[.int .i64 S, .int .i64 R, .int .i64 V]] w fun e w' => e = .returned (.bool (whB S R V)) ∧ New w w' := by
  by_cases h1 : inB 2 60 S = true
  · by_cases h2 : inB 1 60 R = true
    · go_enter Try.func40, Try.ntmps40
      go_wp2_with fail
      refine (l1In_any _ _ _ _).mono ?_
      rintro e w1 ⟨rfl, rfl⟩
      rw [h1]
      go_wp2_with fail
      refine (l1In_any _ _ _ _).mono ?_
      rintro e w1 ⟨rfl, rfl⟩
      rw [h2]
      go_wp2_with fail
      refine (l1In_any _ _ _ _).mono ?_
      rintro e w1 ⟨rfl, rfl⟩
      go_wp2
      go_ret
      exact ⟨ret_bool (by unfold whB; rw [h1, h2]; rfl), (by repeat (first | with_reducible exact New.refl _ | with_reducible assumption | refine New.drewN ?_ _ | refine New.drew ?_ | refine New.alloc ?_ _ | refine New.setCell ?_ (by first | omega | (simp; omega) | (simp; done)) _ | (refine New.trans ?_ (by assumption))))⟩
    · have hf := bool_nt h2
      go_enter Try.func40, Try.ntmps40
      go_wp2_with fail
      refine (l1In_any _ _ _ _).mono ?_
      rintro e w1 ⟨rfl, rfl⟩
      rw [h1]
      go_wp2_with fail
      refine (l1In_any _ _ _ _).mono ?_
      rintro e w1 ⟨rfl, rfl⟩
      rw [hf]
      go_wp2
      go_ret
      exact ⟨ret_bool (by unfold whB; rw [h1, hf]; rfl), (by repeat (first | with_reducible exact New.refl _ | with_reducible assumption | refine New.drewN ?_ _ | refine New.drew ?_ | refine New.alloc ?_ _ | refine New.setCell ?_ (by first | omega | (simp; omega) | (simp; done)) _ | (refine New.trans ?_ (by assumption))))⟩
  · have hf := bool_nt h1
    go_enter Try.func40, Try.ntmps40
    go_wp2_with fail
    refine (l1In_any _ _ _ _).mono ?_
    rintro e w1 ⟨rfl, rfl⟩
    rw [hf]
    go_wp2
    go_ret
    exact ⟨ret_bool (by unfold whB; rw [hf]; rfl), (by repeat (first | with_reducible exact New.refl _ | with_reducible assumption | refine New.drewN ?_ _ | refine New.drew ?_ | refine New.alloc ?_ _ | refine New.setCell ?_ (by first | omega | (simp; omega) | (simp; done)) _ | (refine New.trans ?_ (by assumption))))⟩
theorem sIsWheel_any (w : World) (S R V : Int) :
    Calls Try.prog 18 #[.agg #[.int .i64 S, .int .i64 R, .int .i64 V]] w fun e w' => e = .returned (.bool (whB S R V)) ∧ New w w' := by
  go_enter Try.func18, Try.ntmps18
  go_wp2_with fail
  refine (ckWheel_any _ _ _ _).mono ?_
  rintro e w1 ⟨rfl, n1⟩
  go_wp2
  go_ret
  exact ⟨rfl, New.trans (by repeat (first | with_reducible exact New.refl _ | with_reducible assumption | refine New.drewN ?_ _ | refine New.drew ?_ | refine New.alloc ?_ _ | refine New.setCell ?_ (by first | omega | (simp; omega) | (simp; done)) _ | (refine New.trans ?_ (by assumption)))) n1⟩
theorem ckFill_any (S R V : Int) (w : World) (h0 : 1 ≤ R) (h1 : R ≤ 60) (h2 : 1 ≤ V) (h3 : V ≤ 60) :
    Calls Try.prog 41 #[.agg #[.int .i64 S, .int .i64 R, .int .i64 V]] w fun e w' => e = .returned (.int .i64 (fil R V)) ∧ New w w' := by
  have q := fil_bd ⟨h0, h1⟩ h2
  have d0 : ¬ V = 0 := by omega
  have e : (R + V - 1) / V = fil R V := rfl
  obtain ⟨q', hq⟩ : ∃ q', q' = fil R V := ⟨_, rfl⟩
  rw [← hq] at q e ⊢
  clear hq
  have w1 : IntKind.i64.wrap ((R + V - 1).tdiv V) = q' := by rw [Int.tdiv_eq_ediv_of_nonneg (by omega), e]; exact i64_in _ (by omega)
  go_enter Try.func41, Try.ntmps41
  go_wp2
  go_ret
  exact ⟨by first | rfl | rw [← e], (by repeat (first | with_reducible exact New.refl _ | with_reducible assumption | refine New.drewN ?_ _ | refine New.drew ?_ | refine New.alloc ?_ _ | refine New.setCell ?_ (by first | omega | (simp; omega) | (simp; done)) _ | (refine New.trans ?_ (by assumption))))⟩
theorem spout_any (S R V : Int) (w : World) (h0 : 1 ≤ R) (h1 : R ≤ 60) (h2 : 1 ≤ V) (h3 : V ≤ 60) :
    Calls Try.prog 42 #[.agg #[.int .i64 S, .int .i64 R, .int .i64 V]] w fun e w' => e = .returned (.int .i64 (fil R V)) ∧ New w w' := by
  go_enter Try.func42, Try.ntmps42
  go_wp2_with fail
  refine (quotientUp_any _ _ _ (by omega) (by omega) (by omega) (by omega)).mono ?_
  rintro e w1 ⟨rfl, rfl⟩
  go_wp2
  go_ret
  exact ⟨rfl, (by repeat (first | with_reducible exact New.refl _ | with_reducible assumption | refine New.drewN ?_ _ | refine New.drew ?_ | refine New.alloc ?_ _ | refine New.setCell ?_ (by first | omega | (simp; omega) | (simp; done)) _ | (refine New.trans ?_ (by assumption))))⟩

theorem iIsWheel_any (w : World) (S R V : Int) :
    Calls Try.prog 20 #[.agg #[.int .i64 S, .int .i64 R, .int .i64 V]] w fun e w' => e = .returned (.bool (whB S R V)) ∧ New w w' := by
  by_cases h0 : 2 ≤ S
  · by_cases h1 : S ≤ 60
    · by_cases h2 : 1 ≤ R
      · by_cases h3 : R ≤ 60
        · by_cases h4 : 1 ≤ V
          · by_cases h5 : V ≤ 60
            · go_enter Try.func20, Try.ntmps20
              go_wp2
              go_ret
              exact ⟨ret_bool (whB_iff.2 ⟨⟨⟨h0, h1⟩, h2, h3⟩, h4, h5⟩).symm, (by repeat (first | with_reducible exact New.refl _ | with_reducible assumption | refine New.drewN ?_ _ | refine New.drew ?_ | refine New.alloc ?_ _ | refine New.setCell ?_ (by first | omega | (simp; omega) | (simp; done)) _ | (refine New.trans ?_ (by assumption))))⟩
            · have hf : decide (V ≤ 60) = false := by simpa using h5
              go_enter Try.func20, Try.ntmps20
              go_wp2
              go_ret
              exact ⟨ret_bool (bool_nt fun h => by have := whB_iff.1 h; omega).symm, (by repeat (first | with_reducible exact New.refl _ | with_reducible assumption | refine New.drewN ?_ _ | refine New.drew ?_ | refine New.alloc ?_ _ | refine New.setCell ?_ (by first | omega | (simp; omega) | (simp; done)) _ | (refine New.trans ?_ (by assumption))))⟩
          · have hf : decide (1 ≤ V) = false := by simpa using h4
            go_enter Try.func20, Try.ntmps20
            go_wp2
            go_ret
            exact ⟨ret_bool (bool_nt fun h => by have := whB_iff.1 h; omega).symm, (by repeat (first | with_reducible exact New.refl _ | with_reducible assumption | refine New.drewN ?_ _ | refine New.drew ?_ | refine New.alloc ?_ _ | refine New.setCell ?_ (by first | omega | (simp; omega) | (simp; done)) _ | (refine New.trans ?_ (by assumption))))⟩
        · have hf : decide (R ≤ 60) = false := by simpa using h3
          go_enter Try.func20, Try.ntmps20
          go_wp2
          go_ret
          exact ⟨ret_bool (bool_nt fun h => by have := whB_iff.1 h; omega).symm, (by repeat (first | with_reducible exact New.refl _ | with_reducible assumption | refine New.drewN ?_ _ | refine New.drew ?_ | refine New.alloc ?_ _ | refine New.setCell ?_ (by first | omega | (simp; omega) | (simp; done)) _ | (refine New.trans ?_ (by assumption))))⟩
      · have hf : decide (1 ≤ R) = false := by simpa using h2
        go_enter Try.func20, Try.ntmps20
        go_wp2
        go_ret
        exact ⟨ret_bool (bool_nt fun h => by have := whB_iff.1 h; omega).symm, (by repeat (first | with_reducible exact New.refl _ | with_reducible assumption | refine New.drewN ?_ _ | refine New.drew ?_ | refine New.alloc ?_ _ | refine New.setCell ?_ (by first | omega | (simp; omega) | (simp; done)) _ | (refine New.trans ?_ (by assumption))))⟩
    · have hf : decide (S ≤ 60) = false := by simpa using h1
      go_enter Try.func20, Try.ntmps20
      go_wp2
      go_ret
      exact ⟨ret_bool (bool_nt fun h => by have := whB_iff.1 h; omega).symm, (by repeat (first | with_reducible exact New.refl _ | with_reducible assumption | refine New.drewN ?_ _ | refine New.drew ?_ | refine New.alloc ?_ _ | refine New.setCell ?_ (by first | omega | (simp; omega) | (simp; done)) _ | (refine New.trans ?_ (by assumption))))⟩
  · have hf : decide (2 ≤ S) = false := by simpa using h0
    go_enter Try.func20, Try.ntmps20
    go_wp2
    go_ret
    exact ⟨ret_bool (bool_nt fun h => by have := whB_iff.1 h; omega).symm, (by repeat (first | with_reducible exact New.refl _ | with_reducible assumption | refine New.drewN ?_ _ | refine New.drew ?_ | refine New.alloc ?_ _ | refine New.setCell ?_ (by first | omega | (simp; omega) | (simp; done)) _ | (refine New.trans ?_ (by assumption))))⟩
end Go.Proofs.Ytjkfedhpgionjaa
