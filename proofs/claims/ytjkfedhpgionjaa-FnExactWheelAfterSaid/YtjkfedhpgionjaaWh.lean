/- Wheels: TurnTime, WheelAfter, SpiltByWheel: the model's and the program's. -/
import Derived.Test.YtjkfedhpgionjaaClkF
namespace Go.Proofs.Ytjkfedhpgionjaa
open Go.RowKit Go.IntWalk

theorem mul_bd60 {a b : Int} (ha : 0 ≤ a) (ha' : a ≤ 10000) (hb : 0 ≤ b) (hb' : b ≤ 10000) : 0 ≤ a * b ∧ a * b ≤ 100000000 :=
  ⟨Int.mul_nonneg ha hb, by have := Int.mul_le_mul ha' hb' hb (by omega : (0 : Int) ≤ 10000); omega⟩

set_option maxRecDepth 100000 in
set_option maxHeartbeats 1000000 in
theorem sTurnTime_any (w : World) (S R V : Int) :
    Calls Try.prog 23 #[.agg #[.int .i64 S, .int .i64 R, .int .i64 V]] w fun e w' => e = .returned (.tuple #[.int .i64 (ttW S R V), .bool (whB S R V)]) ∧ New w w' := by
  by_cases h : whB S R V = true
  · have q := whB_iff.1 h
    have f := fil_bd ⟨q.1.2.1, q.1.2.2⟩ q.2.1
    have HM := Lib.hid (show ttW S R V = S * fil R V by unfold ttW; rw [if_pos h])
    have H := Lib.hid h; clear h
    obtain ⟨⟨⟨q1, q2⟩, q3, q4⟩, q5, q6⟩ := q
    have FA := Lib.hid (fun w => ckFill_any S R V w q3 q4 q5 q6); 
    have m := mul_bd60 (a := S) (b := fil R V) (by omega) (by omega) (by omega) (by omega)
    obtain ⟨z, hz⟩ : ∃ z, z = fil R V := ⟨_, rfl⟩
    rw [← hz] at f HM FA m
    clear hz
    obtain ⟨p, hp⟩ : ∃ p, p = S * z := ⟨_, rfl⟩
    rw [← hp] at m HM
    have E := Lib.hid hp
    have w1 : IntKind.i64.wrap (S * z) = p := by rw [← hp]; exact i64_in _ (by omega)
    clear hp
    go_enter Try.func23, Try.ntmps23
    go_wp2_with fail
    refine (ckWheel_any _ _ _ _).mono ?_
    rintro e w1 ⟨rfl, n_w1⟩
    have b0_w1 : w1.cell? ⟨w.heap.size, 0, none⟩ = some (.int .i64 S) := n_w1.cell (by simp [go_sem])
    have b1_w1 : w1.cell? ⟨w.heap.size, 1, none⟩ = some (.int .i64 R) := n_w1.cell (by simp [go_sem])
    have b2_w1 : w1.cell? ⟨w.heap.size, 2, none⟩ = some (.int .i64 V) := n_w1.cell (by simp [go_sem])
    have N1 := Lib.hid (show New w w1 from New.trans (by repeat (first | with_reducible exact New.refl _ | with_reducible assumption | refine New.drewN ?_ _ | refine New.drew ?_ | refine New.alloc ?_ _ | refine New.setCell ?_ (by first | omega | (simp; omega) | (simp; done)) _ | (refine New.trans ?_ (by assumption)))) n_w1); clear n_w1
    rw [H.out]
    go_upto_region 3 with fail
    go_region_held3 (fun w' => w'.cell? ⟨w.heap.size, 0, none⟩ = some (.int .i64 S) ∧ w'.cell? ⟨w.heap.size, 1, none⟩ = some (.int .i64 R) ∧ w'.cell? ⟨w.heap.size, 2, none⟩ = some (.int .i64 V))
      (first | with_reducible exact ⟨b0_w1, b1_w1, b2_w1⟩ | with_reducible exact ⟨b0_u1, b1_u1, b2_u1⟩ | exact ⟨b0_w1, b1_w1, b2_w1⟩ | fail)
      (first
        | (go_at_call 41; refine (FA.out _).mono ?_; rintro e u1 ⟨rfl, n_u1⟩; (try replace n_u1 := New.undrew n_u1); have b0_u1 : u1.cell? ⟨w.heap.size, 0, none⟩ = some (.int .i64 S) := n_u1.cell b0_w1; have b1_u1 : u1.cell? ⟨w.heap.size, 1, none⟩ = some (.int .i64 R) := n_u1.cell b1_w1; have b2_u1 : u1.cell? ⟨w.heap.size, 2, none⟩ = some (.int .i64 V) := n_u1.cell b2_w1;  skip))
    have K_u1 := Lib.hid (show New w1 u1 from n_u1); clear n_u1
    go_wp2
    go_ret2
    exact ⟨by rw [HM.out, H.out]; rfl, (N1.out.trans K_u1.out)⟩
  · have hf := bool_nt h
    have HM := Lib.hid (show ttW S R V = 0 by unfold ttW; rw [hf]; rfl)
    have H := Lib.hid hf; clear h hf
    go_enter Try.func23, Try.ntmps23
    go_wp2_with fail
    refine (ckWheel_any _ _ _ _).mono ?_
    rintro e w1 ⟨rfl, n_w1⟩
    have b0_w1 : w1.cell? ⟨w.heap.size, 0, none⟩ = some (.int .i64 S) := n_w1.cell (by simp [go_sem])
    have b1_w1 : w1.cell? ⟨w.heap.size, 1, none⟩ = some (.int .i64 R) := n_w1.cell (by simp [go_sem])
    have b2_w1 : w1.cell? ⟨w.heap.size, 2, none⟩ = some (.int .i64 V) := n_w1.cell (by simp [go_sem])
    have N1 := Lib.hid (show New w w1 from New.trans (by repeat (first | with_reducible exact New.refl _ | with_reducible assumption | refine New.drewN ?_ _ | refine New.drew ?_ | refine New.alloc ?_ _ | refine New.setCell ?_ (by first | omega | (simp; omega) | (simp; done)) _ | (refine New.trans ?_ (by assumption)))) n_w1); clear n_w1
    rw [H.out]
    go_wp2
    go_ret2
    exact ⟨by rw [HM.out, H.out]; rfl, N1.out⟩

set_option maxRecDepth 100000 in
set_option maxHeartbeats 1000000 in
theorem iTurnTime_any (w : World) (S R V : Int) :
    Calls Try.prog 24 #[.agg #[.int .i64 S, .int .i64 R, .int .i64 V]] w fun e w' => e = .returned (.tuple #[.int .i64 (ttW S R V), .bool (whB S R V)]) ∧ New w w' := by
  by_cases h : whB S R V = true
  · have q := whB_iff.1 h
    have f := fil_bd ⟨q.1.2.1, q.1.2.2⟩ q.2.1
    have HM := Lib.hid (show ttW S R V = S * fil R V by unfold ttW; rw [if_pos h])
    have H := Lib.hid h; clear h
    obtain ⟨⟨⟨q1, q2⟩, q3, q4⟩, q5, q6⟩ := q
    have FA := Lib.hid (fun w => spout_any S R V w q3 q4 q5 q6); 
    have m := mul_bd60 (a := S) (b := fil R V) (by omega) (by omega) (by omega) (by omega)
    obtain ⟨z, hz⟩ : ∃ z, z = fil R V := ⟨_, rfl⟩
    rw [← hz] at f HM FA m
    clear hz
    obtain ⟨p, hp⟩ : ∃ p, p = S * z := ⟨_, rfl⟩
    rw [← hp] at m HM
    have E := Lib.hid hp
    have w1 : IntKind.i64.wrap (S * z) = p := by rw [← hp]; exact i64_in _ (by omega)
    clear hp
    go_enter Try.func24, Try.ntmps24
    go_wp2_with fail
    refine (iIsWheel_any _ _ _ _).mono ?_
    rintro e w1 ⟨rfl, n_w1⟩
    have b0_w1 : w1.cell? ⟨w.heap.size, 0, none⟩ = some (.int .i64 S) := n_w1.cell (by simp [go_sem])
    have b1_w1 : w1.cell? ⟨w.heap.size, 1, none⟩ = some (.int .i64 R) := n_w1.cell (by simp [go_sem])
    have b2_w1 : w1.cell? ⟨w.heap.size, 2, none⟩ = some (.int .i64 V) := n_w1.cell (by simp [go_sem])
    have N1 := Lib.hid (show New w w1 from New.trans (by repeat (first | with_reducible exact New.refl _ | with_reducible assumption | refine New.drewN ?_ _ | refine New.drew ?_ | refine New.alloc ?_ _ | refine New.setCell ?_ (by first | omega | (simp; omega) | (simp; done)) _ | (refine New.trans ?_ (by assumption)))) n_w1); clear n_w1
    rw [H.out]
    go_upto_region 3 with fail
    go_region_held3 (fun w' => w'.cell? ⟨w.heap.size, 0, none⟩ = some (.int .i64 S) ∧ w'.cell? ⟨w.heap.size, 1, none⟩ = some (.int .i64 R) ∧ w'.cell? ⟨w.heap.size, 2, none⟩ = some (.int .i64 V))
      (first | with_reducible exact ⟨b0_w1, b1_w1, b2_w1⟩ | with_reducible exact ⟨b0_u1, b1_u1, b2_u1⟩ | exact ⟨b0_w1, b1_w1, b2_w1⟩ | fail)
      (first
        | (go_at_call 42; refine (FA.out _).mono ?_; rintro e u1 ⟨rfl, n_u1⟩; (try replace n_u1 := New.undrew n_u1); have b0_u1 : u1.cell? ⟨w.heap.size, 0, none⟩ = some (.int .i64 S) := n_u1.cell b0_w1; have b1_u1 : u1.cell? ⟨w.heap.size, 1, none⟩ = some (.int .i64 R) := n_u1.cell b1_w1; have b2_u1 : u1.cell? ⟨w.heap.size, 2, none⟩ = some (.int .i64 V) := n_u1.cell b2_w1;  skip))
    have K_u1 := Lib.hid (show New w1 u1 from n_u1); clear n_u1
    go_wp2
    go_ret2
    exact ⟨by rw [HM.out, H.out]; rfl, (N1.out.trans K_u1.out)⟩
  · have hf := bool_nt h
    have HM := Lib.hid (show ttW S R V = 0 by unfold ttW; rw [hf]; rfl)
    have H := Lib.hid hf; clear h hf
    go_enter Try.func24, Try.ntmps24
    go_wp2_with fail
    refine (iIsWheel_any _ _ _ _).mono ?_
    rintro e w1 ⟨rfl, n_w1⟩
    have b0_w1 : w1.cell? ⟨w.heap.size, 0, none⟩ = some (.int .i64 S) := n_w1.cell (by simp [go_sem])
    have b1_w1 : w1.cell? ⟨w.heap.size, 1, none⟩ = some (.int .i64 R) := n_w1.cell (by simp [go_sem])
    have b2_w1 : w1.cell? ⟨w.heap.size, 2, none⟩ = some (.int .i64 V) := n_w1.cell (by simp [go_sem])
    have N1 := Lib.hid (show New w w1 from New.trans (by repeat (first | with_reducible exact New.refl _ | with_reducible assumption | refine New.drewN ?_ _ | refine New.drew ?_ | refine New.alloc ?_ _ | refine New.setCell ?_ (by first | omega | (simp; omega) | (simp; done)) _ | (refine New.trans ?_ (by assumption)))) n_w1); clear n_w1
    rw [H.out]
    go_wp2
    go_ret2
    exact ⟨by rw [HM.out, H.out]; rfl, N1.out⟩

set_option maxRecDepth 100000 in
set_option maxHeartbeats 2000000 in
theorem sWheelAfter_any (w : World) (S R V t : Int) :
    Calls Try.prog 21 #[.agg #[.int .i64 S, .int .i64 R, .int .i64 V], .int .i64 t] w fun e w' => e = .returned (.tuple #[.int .i64 (wa1 S R V t), .int .i64 (wa2 S R V t), .bool (waB S R V t)]) ∧ New w w' := by
  by_cases h : whB S R V = true
  · by_cases ht : tmB t = true
    · have q := whB_iff.1 h
      have f := fil_bd ⟨q.1.2.1, q.1.2.2⟩ q.2.1
      have hw : waB S R V t = true := by unfold waB; rw [h, ht]; rfl
      have HW := Lib.hid hw
      have HM0 := Lib.hid (show wa1 S R V t = _ by unfold wa1; rw [if_pos hw])
      have HM1 := Lib.hid (show wa2 S R V t = _ by unfold wa2; rw [if_pos hw])
      have tb := inB_iff.1 ht
      have H := Lib.hid h
      have HT := Lib.hid ht
      clear h ht hw
      obtain ⟨⟨⟨q1, q2⟩, q3, q4⟩, q5, q6⟩ := q
      obtain ⟨t0, t1⟩ := tb
      have FA := Lib.hid (fun w => ckFill_any S R V w q3 q4 q5 q6)
      obtain ⟨z, hz⟩ : ∃ z, z = fil R V := ⟨_, rfl⟩
      rw [← hz] at f FA
      rw [← hz] at HM0
      rw [← hz] at HM1
      clear hz
      have d0 : ¬ z = 0 := by omega
      have dS : ¬ S = 0 := by omega
      have x0 := Int.ediv_nonneg t0 (show 0 ≤ z by omega)
      have x1 := Int.ediv_le_self z t0
      have y0 := Int.emod_nonneg t (show z ≠ 0 by omega)
      have y1 := Int.emod_lt_of_pos t (show 0 < z by omega)
      have e1 : t.tdiv z = t / z := Int.tdiv_eq_ediv_of_nonneg t0
      have e2 : t.tmod z = t % z := Int.tmod_eq_emod_of_nonneg t0
      have e3 : (t / z).tmod S = t / z % S := Int.tmod_eq_emod_of_nonneg x0
      have y3 := Int.emod_nonneg (t / z) (show S ≠ 0 by omega)
      have y4 := Int.emod_lt_of_pos (t / z) (show 0 < S by omega)
      have m := mul_bd60 (a := t % z) (b := V) y0 (by omega) (by omega) (by omega)
      obtain ⟨x, hx⟩ : ∃ x, x = t / z := ⟨_, rfl⟩
      obtain ⟨y, hy⟩ : ∃ y, y = t % z := ⟨_, rfl⟩
      rw [← hx] at x0 x1 e1 e3 y3 y4 HM0
      rw [← hy] at y0 y1 e2 m HM1
      obtain ⟨u, hu⟩ : ∃ u, u = x % S := ⟨_, rfl⟩
      obtain ⟨v, hv⟩ : ∃ v, v = y * V := ⟨_, rfl⟩
      rw [← hu] at e3 y3 y4 HM0
      rw [← hv] at m HM1
      have g1 : IntKind.i64.wrap (t.tdiv z) = x := by rw [e1]; exact i64_in _ (by omega)
      have g2 : IntKind.i64.wrap (y * V) = v := by rw [← hv]; exact i64_in _ (by omega)
      have g3 : IntKind.i64.wrap (t.tmod z * V) = v := by rw [e2]; exact g2
      have gx : IntKind.i64.wrap x = x := i64_in _ (by omega)
      have gv : IntKind.i64.wrap v = v := i64_in _ (by omega)
      have k1 : t / z = x := hx.symm
      have k2 : t % z = y := hy.symm
      have k3 : x % S = u := hu.symm
      have k4 : y * V = v := hv.symm
      clear hx hy hu hv
      go_enter Try.func21, Try.ntmps21
      go_wp2_with fail
      refine (ckWheel_any _ _ _ _).mono ?_
      rintro e w1 ⟨rfl, n_w1⟩
      have b0_w1 : w1.cell? ⟨w.heap.size, 0, none⟩ = some (.int .i64 S) := n_w1.cell (by simp [go_sem])
      have b1_w1 : w1.cell? ⟨w.heap.size, 1, none⟩ = some (.int .i64 R) := n_w1.cell (by simp [go_sem])
      have b2_w1 : w1.cell? ⟨w.heap.size, 2, none⟩ = some (.int .i64 V) := n_w1.cell (by simp [go_sem])
      have N1 := Lib.hid (show New w w1 from New.trans (by repeat (first | with_reducible exact New.refl _ | with_reducible assumption | refine New.drewN ?_ _ | refine New.drew ?_ | refine New.alloc ?_ _ | refine New.setCell ?_ (by first | omega | (simp; omega) | (simp; done)) _ | (refine New.trans ?_ (by assumption)))) n_w1); clear n_w1
      rw [H.out]
      go_wp2_with fail
      refine (ckTime_any _ _).mono ?_
      rintro e w9 ⟨rfl, rfl⟩
      rw [HT.out]
      go_upto_region 3 with fail
      go_region_held3 (fun w' => w'.cell? ⟨w.heap.size, 0, none⟩ = some (.int .i64 S) ∧ w'.cell? ⟨w.heap.size, 1, none⟩ = some (.int .i64 R) ∧ w'.cell? ⟨w.heap.size, 2, none⟩ = some (.int .i64 V))
        (first | with_reducible exact ⟨b0_w1, b1_w1, b2_w1⟩ | with_reducible exact ⟨b0_u1, b1_u1, b2_u1⟩ | with_reducible exact ⟨b0_u2, b1_u2, b2_u2⟩ | exact ⟨b0_w1, b1_w1, b2_w1⟩ | fail)
        (first
          | (go_at_call 41; refine (FA.out _).mono ?_; rintro e u1 ⟨rfl, n_u1⟩; (try replace n_u1 := New.undrew n_u1); have b0_u1 : u1.cell? ⟨w.heap.size, 0, none⟩ = some (.int .i64 S) := n_u1.cell b0_w1; have b1_u1 : u1.cell? ⟨w.heap.size, 1, none⟩ = some (.int .i64 R) := n_u1.cell b1_w1; have b2_u1 : u1.cell? ⟨w.heap.size, 2, none⟩ = some (.int .i64 V) := n_u1.cell b2_w1;  skip)
          | (go_at_call 41; refine (FA.out _).mono ?_; rintro e u2 ⟨rfl, n_u2⟩; (try replace n_u2 := New.undrew n_u2); have b0_u2 : u2.cell? ⟨w.heap.size, 0, none⟩ = some (.int .i64 S) := n_u2.cell b0_u1; have b1_u2 : u2.cell? ⟨w.heap.size, 1, none⟩ = some (.int .i64 R) := n_u2.cell b1_u1; have b2_u2 : u2.cell? ⟨w.heap.size, 2, none⟩ = some (.int .i64 V) := n_u2.cell b2_u1;  skip))
      have K_u1 := Lib.hid (show New w1 u1 from n_u1); clear n_u1
      have K_u2 := Lib.hid (show New u1 u2 from n_u2); clear n_u2
      go_wp2
      go_ret3
      exact ⟨by rw [HM0.out, HM1.out, HW.out]; first | rfl | simp [*], ((N1.out.trans K_u1.out).trans K_u2.out)⟩
    · have hf := bool_nt ht
      have hw : waB S R V t = false := by unfold waB; rw [h, hf]; rfl
      have HW := Lib.hid hw
      have HM0 := Lib.hid (show wa1 S R V t = 0 by unfold wa1; rw [hw]; rfl)
      have HM1 := Lib.hid (show wa2 S R V t = 0 by unfold wa2; rw [hw]; rfl)
      have H := Lib.hid h; have HT := Lib.hid hf; clear h ht hf hw
      go_enter Try.func21, Try.ntmps21
      go_wp2_with fail
      refine (ckWheel_any _ _ _ _).mono ?_
      rintro e w1 ⟨rfl, n_w1⟩
      have b0_w1 : w1.cell? ⟨w.heap.size, 0, none⟩ = some (.int .i64 S) := n_w1.cell (by simp [go_sem])
      have b1_w1 : w1.cell? ⟨w.heap.size, 1, none⟩ = some (.int .i64 R) := n_w1.cell (by simp [go_sem])
      have b2_w1 : w1.cell? ⟨w.heap.size, 2, none⟩ = some (.int .i64 V) := n_w1.cell (by simp [go_sem])
      have N1 := Lib.hid (show New w w1 from New.trans (by repeat (first | with_reducible exact New.refl _ | with_reducible assumption | refine New.drewN ?_ _ | refine New.drew ?_ | refine New.alloc ?_ _ | refine New.setCell ?_ (by first | omega | (simp; omega) | (simp; done)) _ | (refine New.trans ?_ (by assumption)))) n_w1); clear n_w1
      rw [H.out]
      go_wp2_with fail
      refine (ckTime_any _ _).mono ?_
      rintro e w9 ⟨rfl, rfl⟩
      rw [HT.out]
      go_wp2
      go_ret3
      exact ⟨by rw [HM0.out, HM1.out, HW.out]; rfl, N1.out⟩
  · have hf := bool_nt h
    have hw : waB S R V t = false := by unfold waB; rw [hf]; rfl
    have HW := Lib.hid hw
    have HM0 := Lib.hid (show wa1 S R V t = 0 by unfold wa1; rw [hw]; rfl)
    have HM1 := Lib.hid (show wa2 S R V t = 0 by unfold wa2; rw [hw]; rfl)
    have H := Lib.hid hf; clear h hf hw
    go_enter Try.func21, Try.ntmps21
    go_wp2_with fail
    refine (ckWheel_any _ _ _ _).mono ?_
    rintro e w1 ⟨rfl, n_w1⟩
    have b0_w1 : w1.cell? ⟨w.heap.size, 0, none⟩ = some (.int .i64 S) := n_w1.cell (by simp [go_sem])
    have b1_w1 : w1.cell? ⟨w.heap.size, 1, none⟩ = some (.int .i64 R) := n_w1.cell (by simp [go_sem])
    have b2_w1 : w1.cell? ⟨w.heap.size, 2, none⟩ = some (.int .i64 V) := n_w1.cell (by simp [go_sem])
    have N1 := Lib.hid (show New w w1 from New.trans (by repeat (first | with_reducible exact New.refl _ | with_reducible assumption | refine New.drewN ?_ _ | refine New.drew ?_ | refine New.alloc ?_ _ | refine New.setCell ?_ (by first | omega | (simp; omega) | (simp; done)) _ | (refine New.trans ?_ (by assumption)))) n_w1); clear n_w1
    rw [H.out]
    go_wp2
    go_ret3
    exact ⟨by rw [HM0.out, HM1.out, HW.out]; rfl, N1.out⟩

set_option maxRecDepth 100000 in
set_option maxHeartbeats 2000000 in
theorem iWheelAfter_any (w : World) (S R V t : Int) :
    Calls Try.prog 22 #[.agg #[.int .i64 S, .int .i64 R, .int .i64 V], .int .i64 t] w fun e w' => e = .returned (.tuple #[.int .i64 (wa1 S R V t), .int .i64 (wa2 S R V t), .bool (waB S R V t)]) ∧ New w w' := by
  by_cases h : whB S R V = true
  · by_cases ht : tmB t = true
    · have q := whB_iff.1 h
      have f := fil_bd ⟨q.1.2.1, q.1.2.2⟩ q.2.1
      have hw : waB S R V t = true := by unfold waB; rw [h, ht]; rfl
      have HW := Lib.hid hw
      have HM0 := Lib.hid (show wa1 S R V t = _ by unfold wa1; rw [if_pos hw])
      have HM1 := Lib.hid (show wa2 S R V t = _ by unfold wa2; rw [if_pos hw])
      have tb := inB_iff.1 ht
      have H := Lib.hid h
      have HT := Lib.hid ht
      clear h ht hw
      obtain ⟨⟨⟨q1, q2⟩, q3, q4⟩, q5, q6⟩ := q
      obtain ⟨t0, t1⟩ := tb
      have FA := Lib.hid (fun w => spout_any S R V w q3 q4 q5 q6)
      obtain ⟨z, hz⟩ : ∃ z, z = fil R V := ⟨_, rfl⟩
      rw [← hz] at f FA
      rw [← hz] at HM0
      rw [← hz] at HM1
      clear hz
      have d0 : ¬ z = 0 := by omega
      have dS : ¬ S = 0 := by omega
      have x0 := Int.ediv_nonneg t0 (show 0 ≤ z by omega)
      have x1 := Int.ediv_le_self z t0
      have y0 := Int.emod_nonneg t (show z ≠ 0 by omega)
      have y1 := Int.emod_lt_of_pos t (show 0 < z by omega)
      have e1 : t.tdiv z = t / z := Int.tdiv_eq_ediv_of_nonneg t0
      have e2 : t.tmod z = t % z := Int.tmod_eq_emod_of_nonneg t0
      have e3 : (t / z).tmod S = t / z % S := Int.tmod_eq_emod_of_nonneg x0
      have y3 := Int.emod_nonneg (t / z) (show S ≠ 0 by omega)
      have y4 := Int.emod_lt_of_pos (t / z) (show 0 < S by omega)
      have m := mul_bd60 (a := t % z) (b := V) y0 (by omega) (by omega) (by omega)
      obtain ⟨x, hx⟩ : ∃ x, x = t / z := ⟨_, rfl⟩
      obtain ⟨y, hy⟩ : ∃ y, y = t % z := ⟨_, rfl⟩
      rw [← hx] at x0 x1 e1 e3 y3 y4 HM0
      rw [← hy] at y0 y1 e2 m HM1
      obtain ⟨u, hu⟩ : ∃ u, u = x % S := ⟨_, rfl⟩
      obtain ⟨v, hv⟩ : ∃ v, v = y * V := ⟨_, rfl⟩
      rw [← hu] at e3 y3 y4 HM0
      rw [← hv] at m HM1
      have g1 : IntKind.i64.wrap (t.tdiv z) = x := by rw [e1]; exact i64_in _ (by omega)
      have g2 : IntKind.i64.wrap (y * V) = v := by rw [← hv]; exact i64_in _ (by omega)
      have g3 : IntKind.i64.wrap (t.tmod z * V) = v := by rw [e2]; exact g2
      have gx : IntKind.i64.wrap x = x := i64_in _ (by omega)
      have gv : IntKind.i64.wrap v = v := i64_in _ (by omega)
      have k1 : t / z = x := hx.symm
      have k2 : t % z = y := hy.symm
      have k3 : x % S = u := hu.symm
      have k4 : y * V = v := hv.symm
      clear hx hy hu hv
      go_enter Try.func22, Try.ntmps22
      go_wp2_with fail
      refine (iIsWheel_any _ _ _ _).mono ?_
      rintro e w1 ⟨rfl, n_w1⟩
      have b0_w1 : w1.cell? ⟨w.heap.size, 0, none⟩ = some (.int .i64 S) := n_w1.cell (by simp [go_sem])
      have b1_w1 : w1.cell? ⟨w.heap.size, 1, none⟩ = some (.int .i64 R) := n_w1.cell (by simp [go_sem])
      have b2_w1 : w1.cell? ⟨w.heap.size, 2, none⟩ = some (.int .i64 V) := n_w1.cell (by simp [go_sem])
      have N1 := Lib.hid (show New w w1 from New.trans (by repeat (first | with_reducible exact New.refl _ | with_reducible assumption | refine New.drewN ?_ _ | refine New.drew ?_ | refine New.alloc ?_ _ | refine New.setCell ?_ (by first | omega | (simp; omega) | (simp; done)) _ | (refine New.trans ?_ (by assumption)))) n_w1); clear n_w1
      rw [H.out]
      go_wp2_with fail
      refine (isTime_any _ _).mono ?_
      rintro e w9 ⟨rfl, rfl⟩
      rw [HT.out]
      go_upto_region 3 with fail
      go_region_held3 (fun w' => w'.cell? ⟨w.heap.size, 0, none⟩ = some (.int .i64 S) ∧ w'.cell? ⟨w.heap.size, 1, none⟩ = some (.int .i64 R) ∧ w'.cell? ⟨w.heap.size, 2, none⟩ = some (.int .i64 V))
        (first | with_reducible exact ⟨b0_w1, b1_w1, b2_w1⟩ | with_reducible exact ⟨b0_u1, b1_u1, b2_u1⟩ | with_reducible exact ⟨b0_u2, b1_u2, b2_u2⟩ | exact ⟨b0_w1, b1_w1, b2_w1⟩ | fail)
        (first
          | (go_at_call 42; refine (FA.out _).mono ?_; rintro e u1 ⟨rfl, n_u1⟩; (try replace n_u1 := New.undrew n_u1); have b0_u1 : u1.cell? ⟨w.heap.size, 0, none⟩ = some (.int .i64 S) := n_u1.cell b0_w1; have b1_u1 : u1.cell? ⟨w.heap.size, 1, none⟩ = some (.int .i64 R) := n_u1.cell b1_w1; have b2_u1 : u1.cell? ⟨w.heap.size, 2, none⟩ = some (.int .i64 V) := n_u1.cell b2_w1;  skip)
          | (go_at_call 42; refine (FA.out _).mono ?_; rintro e u2 ⟨rfl, n_u2⟩; (try replace n_u2 := New.undrew n_u2); have b0_u2 : u2.cell? ⟨w.heap.size, 0, none⟩ = some (.int .i64 S) := n_u2.cell b0_u1; have b1_u2 : u2.cell? ⟨w.heap.size, 1, none⟩ = some (.int .i64 R) := n_u2.cell b1_u1; have b2_u2 : u2.cell? ⟨w.heap.size, 2, none⟩ = some (.int .i64 V) := n_u2.cell b2_u1;  skip))
      have K_u1 := Lib.hid (show New w1 u1 from n_u1); clear n_u1
      have K_u2 := Lib.hid (show New u1 u2 from n_u2); clear n_u2
      go_wp2
      go_ret3
      exact ⟨by rw [HM0.out, HM1.out, HW.out]; first | rfl | simp [*], ((N1.out.trans K_u1.out).trans K_u2.out)⟩
    · have hf := bool_nt ht
      have hw : waB S R V t = false := by unfold waB; rw [h, hf]; rfl
      have HW := Lib.hid hw
      have HM0 := Lib.hid (show wa1 S R V t = 0 by unfold wa1; rw [hw]; rfl)
      have HM1 := Lib.hid (show wa2 S R V t = 0 by unfold wa2; rw [hw]; rfl)
      have H := Lib.hid h; have HT := Lib.hid hf; clear h ht hf hw
      go_enter Try.func22, Try.ntmps22
      go_wp2_with fail
      refine (iIsWheel_any _ _ _ _).mono ?_
      rintro e w1 ⟨rfl, n_w1⟩
      have b0_w1 : w1.cell? ⟨w.heap.size, 0, none⟩ = some (.int .i64 S) := n_w1.cell (by simp [go_sem])
      have b1_w1 : w1.cell? ⟨w.heap.size, 1, none⟩ = some (.int .i64 R) := n_w1.cell (by simp [go_sem])
      have b2_w1 : w1.cell? ⟨w.heap.size, 2, none⟩ = some (.int .i64 V) := n_w1.cell (by simp [go_sem])
      have N1 := Lib.hid (show New w w1 from New.trans (by repeat (first | with_reducible exact New.refl _ | with_reducible assumption | refine New.drewN ?_ _ | refine New.drew ?_ | refine New.alloc ?_ _ | refine New.setCell ?_ (by first | omega | (simp; omega) | (simp; done)) _ | (refine New.trans ?_ (by assumption)))) n_w1); clear n_w1
      rw [H.out]
      go_wp2_with fail
      refine (isTime_any _ _).mono ?_
      rintro e w9 ⟨rfl, rfl⟩
      rw [HT.out]
      go_wp2
      go_ret3
      exact ⟨by rw [HM0.out, HM1.out, HW.out]; rfl, N1.out⟩
  · have hf := bool_nt h
    have hw : waB S R V t = false := by unfold waB; rw [hf]; rfl
    have HW := Lib.hid hw
    have HM0 := Lib.hid (show wa1 S R V t = 0 by unfold wa1; rw [hw]; rfl)
    have HM1 := Lib.hid (show wa2 S R V t = 0 by unfold wa2; rw [hw]; rfl)
    have H := Lib.hid hf; clear h hf hw
    go_enter Try.func22, Try.ntmps22
    go_wp2_with fail
    refine (iIsWheel_any _ _ _ _).mono ?_
    rintro e w1 ⟨rfl, n_w1⟩
    have b0_w1 : w1.cell? ⟨w.heap.size, 0, none⟩ = some (.int .i64 S) := n_w1.cell (by simp [go_sem])
    have b1_w1 : w1.cell? ⟨w.heap.size, 1, none⟩ = some (.int .i64 R) := n_w1.cell (by simp [go_sem])
    have b2_w1 : w1.cell? ⟨w.heap.size, 2, none⟩ = some (.int .i64 V) := n_w1.cell (by simp [go_sem])
    have N1 := Lib.hid (show New w w1 from New.trans (by repeat (first | with_reducible exact New.refl _ | with_reducible assumption | refine New.drewN ?_ _ | refine New.drew ?_ | refine New.alloc ?_ _ | refine New.setCell ?_ (by first | omega | (simp; omega) | (simp; done)) _ | (refine New.trans ?_ (by assumption)))) n_w1); clear n_w1
    rw [H.out]
    go_wp2
    go_ret3
    exact ⟨by rw [HM0.out, HM1.out, HW.out]; rfl, N1.out⟩

set_option maxRecDepth 100000 in
set_option maxHeartbeats 2000000 in
theorem sSpiltByWheel_any (w : World) (S R V t : Int) :
    Calls Try.prog 30 #[.agg #[.int .i64 S, .int .i64 R, .int .i64 V], .int .i64 t] w fun e w' => e = .returned (.tuple #[.int .i64 (sbM S R V t), .bool (waB S R V t)]) ∧ New w w' := by
  by_cases h : whB S R V = true
  · by_cases ht : tmB t = true
    · have q := whB_iff.1 h
      have f := fil_bd ⟨q.1.2.1, q.1.2.2⟩ q.2.1
      have hw : waB S R V t = true := by unfold waB; rw [h, ht]; rfl
      have HW := Lib.hid hw
      have HM0 := Lib.hid (show sbM S R V t = _ by unfold sbM; rw [if_pos hw])
      have tb := inB_iff.1 ht
      have H := Lib.hid h
      have HT := Lib.hid ht
      clear h ht hw
      obtain ⟨⟨⟨q1, q2⟩, q3, q4⟩, q5, q6⟩ := q
      obtain ⟨t0, t1⟩ := tb
      have FA := Lib.hid (fun w => ckFill_any S R V w q3 q4 q5 q6)
      obtain ⟨z, hz⟩ : ∃ z, z = fil R V := ⟨_, rfl⟩
      rw [← hz] at f FA
      rw [← hz] at HM0
      clear hz
      have d0 : ¬ z = 0 := by omega
      have x0 := Int.ediv_nonneg t0 (show 0 ≤ z by omega)
      have x1 := Int.ediv_le_self z t0
      have e1 : t.tdiv z = t / z := Int.tdiv_eq_ediv_of_nonneg t0
      have m := mul_bd60 (a := z) (b := V) (by omega) (by omega) (by omega) (by omega)
      have m1 : z * V ≤ 60 * 60 := Int.mul_le_mul (by omega) (by omega) (by omega) (by omega)
      obtain ⟨x, hx⟩ : ∃ x, x = t / z := ⟨_, rfl⟩
      obtain ⟨y, hy⟩ : ∃ y, y = z * V := ⟨_, rfl⟩
      rw [← hx] at x0 x1 e1 HM0
      rw [← hy] at m m1 HM0
      have m2 : -1000000 ≤ x * (y - R) ∧ x * (y - R) ≤ 100000000 := by
        have a1 := Int.mul_le_mul_of_nonneg_left (show y - R ≤ 3600 by omega) x0
        have a2 := Int.mul_le_mul_of_nonneg_left (show -60 ≤ y - R by omega) x0
        omega
      obtain ⟨v, hv⟩ : ∃ v, v = x * (y - R) := ⟨_, rfl⟩
      rw [← hv] at m2 HM0
      have g1 : IntKind.i64.wrap (t.tdiv z) = x := by rw [e1]; exact i64_in _ (by omega)
      have g2 : IntKind.i64.wrap (z * V) = y := by rw [← hy]; exact i64_in _ (by omega)
      have g3 : IntKind.i64.wrap (x * (y - R)) = v := by rw [← hv]; exact i64_in _ (by omega)
      have g4 : IntKind.i64.wrap (y - R) = y - R := i64_in _ (by omega)
      have gx : IntKind.i64.wrap x = x := i64_in _ (by omega)
      have gv : IntKind.i64.wrap v = v := i64_in _ (by omega)
      have gy : IntKind.i64.wrap y = y := i64_in _ (by omega)
      have k1 : t / z = x := hx.symm
      have k2 : z * V = y := hy.symm
      have k4 : x * (y - R) = v := hv.symm
      clear hx hy hv
      go_enter Try.func30, Try.ntmps30
      go_wp2_with fail
      refine (ckWheel_any _ _ _ _).mono ?_
      rintro e w1 ⟨rfl, n_w1⟩
      have b0_w1 : w1.cell? ⟨w.heap.size, 0, none⟩ = some (.int .i64 S) := n_w1.cell (by simp [go_sem])
      have b1_w1 : w1.cell? ⟨w.heap.size, 1, none⟩ = some (.int .i64 R) := n_w1.cell (by simp [go_sem])
      have b2_w1 : w1.cell? ⟨w.heap.size, 2, none⟩ = some (.int .i64 V) := n_w1.cell (by simp [go_sem])
      have N1 := Lib.hid (show New w w1 from New.trans (by repeat (first | with_reducible exact New.refl _ | with_reducible assumption | refine New.drewN ?_ _ | refine New.drew ?_ | refine New.alloc ?_ _ | refine New.setCell ?_ (by first | omega | (simp; omega) | (simp; done)) _ | (refine New.trans ?_ (by assumption)))) n_w1); clear n_w1
      rw [H.out]
      go_wp2_with fail
      refine (ckTime_any _ _).mono ?_
      rintro e w9 ⟨rfl, rfl⟩
      rw [HT.out]
      go_upto_region 3 with fail
      go_region_held3 (fun w' => w'.cell? ⟨w.heap.size, 0, none⟩ = some (.int .i64 S) ∧ w'.cell? ⟨w.heap.size, 1, none⟩ = some (.int .i64 R) ∧ w'.cell? ⟨w.heap.size, 2, none⟩ = some (.int .i64 V))
        (first | with_reducible exact ⟨b0_w1, b1_w1, b2_w1⟩ | with_reducible exact ⟨b0_u1, b1_u1, b2_u1⟩ | with_reducible exact ⟨b0_u2, b1_u2, b2_u2⟩ | exact ⟨b0_w1, b1_w1, b2_w1⟩ | fail)
        (first
          | (go_at_call 41; refine (FA.out _).mono ?_; rintro e u1 ⟨rfl, n_u1⟩; (try replace n_u1 := New.undrew n_u1); have b0_u1 : u1.cell? ⟨w.heap.size, 0, none⟩ = some (.int .i64 S) := n_u1.cell b0_w1; have b1_u1 : u1.cell? ⟨w.heap.size, 1, none⟩ = some (.int .i64 R) := n_u1.cell b1_w1; have b2_u1 : u1.cell? ⟨w.heap.size, 2, none⟩ = some (.int .i64 V) := n_u1.cell b2_w1;  skip)
          | (go_at_call 41; refine (FA.out _).mono ?_; rintro e u2 ⟨rfl, n_u2⟩; (try replace n_u2 := New.undrew n_u2); have b0_u2 : u2.cell? ⟨w.heap.size, 0, none⟩ = some (.int .i64 S) := n_u2.cell b0_u1; have b1_u2 : u2.cell? ⟨w.heap.size, 1, none⟩ = some (.int .i64 R) := n_u2.cell b1_u1; have b2_u2 : u2.cell? ⟨w.heap.size, 2, none⟩ = some (.int .i64 V) := n_u2.cell b2_u1;  skip))
      have K_u1 := Lib.hid (show New w1 u1 from n_u1); clear n_u1
      have K_u2 := Lib.hid (show New u1 u2 from n_u2); clear n_u2
      go_wp2
      go_ret2
      exact ⟨by rw [HM0.out, HW.out]; first | rfl | simp [*], ((N1.out.trans K_u1.out).trans K_u2.out)⟩
    · have hf := bool_nt ht
      have hw : waB S R V t = false := by unfold waB; rw [h, hf]; rfl
      have HW := Lib.hid hw
      have HM0 := Lib.hid (show sbM S R V t = 0 by unfold sbM; rw [hw]; rfl)
      have H := Lib.hid h; have HT := Lib.hid hf; clear h ht hf hw
      go_enter Try.func30, Try.ntmps30
      go_wp2_with fail
      refine (ckWheel_any _ _ _ _).mono ?_
      rintro e w1 ⟨rfl, n_w1⟩
      have b0_w1 : w1.cell? ⟨w.heap.size, 0, none⟩ = some (.int .i64 S) := n_w1.cell (by simp [go_sem])
      have b1_w1 : w1.cell? ⟨w.heap.size, 1, none⟩ = some (.int .i64 R) := n_w1.cell (by simp [go_sem])
      have b2_w1 : w1.cell? ⟨w.heap.size, 2, none⟩ = some (.int .i64 V) := n_w1.cell (by simp [go_sem])
      have N1 := Lib.hid (show New w w1 from New.trans (by repeat (first | with_reducible exact New.refl _ | with_reducible assumption | refine New.drewN ?_ _ | refine New.drew ?_ | refine New.alloc ?_ _ | refine New.setCell ?_ (by first | omega | (simp; omega) | (simp; done)) _ | (refine New.trans ?_ (by assumption)))) n_w1); clear n_w1
      rw [H.out]
      go_wp2_with fail
      refine (ckTime_any _ _).mono ?_
      rintro e w9 ⟨rfl, rfl⟩
      rw [HT.out]
      go_wp2
      go_ret2
      exact ⟨by rw [HM0.out, HW.out]; rfl, N1.out⟩
  · have hf := bool_nt h
    have hw : waB S R V t = false := by unfold waB; rw [hf]; rfl
    have HW := Lib.hid hw
    have HM0 := Lib.hid (show sbM S R V t = 0 by unfold sbM; rw [hw]; rfl)
    have H := Lib.hid hf; clear h hf hw
    go_enter Try.func30, Try.ntmps30
    go_wp2_with fail
    refine (ckWheel_any _ _ _ _).mono ?_
    rintro e w1 ⟨rfl, n_w1⟩
    have b0_w1 : w1.cell? ⟨w.heap.size, 0, none⟩ = some (.int .i64 S) := n_w1.cell (by simp [go_sem])
    have b1_w1 : w1.cell? ⟨w.heap.size, 1, none⟩ = some (.int .i64 R) := n_w1.cell (by simp [go_sem])
    have b2_w1 : w1.cell? ⟨w.heap.size, 2, none⟩ = some (.int .i64 V) := n_w1.cell (by simp [go_sem])
    have N1 := Lib.hid (show New w w1 from New.trans (by repeat (first | with_reducible exact New.refl _ | with_reducible assumption | refine New.drewN ?_ _ | refine New.drew ?_ | refine New.alloc ?_ _ | refine New.setCell ?_ (by first | omega | (simp; omega) | (simp; done)) _ | (refine New.trans ?_ (by assumption)))) n_w1); clear n_w1
    rw [H.out]
    go_wp2
    go_ret2
    exact ⟨by rw [HM0.out, HW.out]; rfl, N1.out⟩

set_option maxRecDepth 100000 in
set_option maxHeartbeats 2000000 in
theorem iSpiltByWheel_any (w : World) (S R V t : Int) :
    Calls Try.prog 31 #[.agg #[.int .i64 S, .int .i64 R, .int .i64 V], .int .i64 t] w fun e w' => e = .returned (.tuple #[.int .i64 (sbM S R V t), .bool (waB S R V t)]) ∧ New w w' := by
  by_cases h : whB S R V = true
  · by_cases ht : tmB t = true
    · have q := whB_iff.1 h
      have f := fil_bd ⟨q.1.2.1, q.1.2.2⟩ q.2.1
      have hw : waB S R V t = true := by unfold waB; rw [h, ht]; rfl
      have HW := Lib.hid hw
      have HM0 := Lib.hid (show sbM S R V t = _ by unfold sbM; rw [if_pos hw])
      have tb := inB_iff.1 ht
      have H := Lib.hid h
      have HT := Lib.hid ht
      clear h ht hw
      obtain ⟨⟨⟨q1, q2⟩, q3, q4⟩, q5, q6⟩ := q
      obtain ⟨t0, t1⟩ := tb
      have FA := Lib.hid (fun w => spout_any S R V w q3 q4 q5 q6)
      obtain ⟨z, hz⟩ : ∃ z, z = fil R V := ⟨_, rfl⟩
      rw [← hz] at f FA
      rw [← hz] at HM0
      clear hz
      have d0 : ¬ z = 0 := by omega
      have x0 := Int.ediv_nonneg t0 (show 0 ≤ z by omega)
      have x1 := Int.ediv_le_self z t0
      have e1 : t.tdiv z = t / z := Int.tdiv_eq_ediv_of_nonneg t0
      have m := mul_bd60 (a := z) (b := V) (by omega) (by omega) (by omega) (by omega)
      have m1 : z * V ≤ 60 * 60 := Int.mul_le_mul (by omega) (by omega) (by omega) (by omega)
      obtain ⟨x, hx⟩ : ∃ x, x = t / z := ⟨_, rfl⟩
      obtain ⟨y, hy⟩ : ∃ y, y = z * V := ⟨_, rfl⟩
      rw [← hx] at x0 x1 e1 HM0
      rw [← hy] at m m1 HM0
      have m2 : -1000000 ≤ x * (y - R) ∧ x * (y - R) ≤ 100000000 := by
        have a1 := Int.mul_le_mul_of_nonneg_left (show y - R ≤ 3600 by omega) x0
        have a2 := Int.mul_le_mul_of_nonneg_left (show -60 ≤ y - R by omega) x0
        omega
      obtain ⟨v, hv⟩ : ∃ v, v = x * (y - R) := ⟨_, rfl⟩
      rw [← hv] at m2 HM0
      have g1 : IntKind.i64.wrap (t.tdiv z) = x := by rw [e1]; exact i64_in _ (by omega)
      have g2 : IntKind.i64.wrap (z * V) = y := by rw [← hy]; exact i64_in _ (by omega)
      have g3 : IntKind.i64.wrap (x * (y - R)) = v := by rw [← hv]; exact i64_in _ (by omega)
      have g4 : IntKind.i64.wrap (y - R) = y - R := i64_in _ (by omega)
      have gx : IntKind.i64.wrap x = x := i64_in _ (by omega)
      have gv : IntKind.i64.wrap v = v := i64_in _ (by omega)
      have gy : IntKind.i64.wrap y = y := i64_in _ (by omega)
      have k1 : t / z = x := hx.symm
      have k2 : z * V = y := hy.symm
      have k4 : x * (y - R) = v := hv.symm
      clear hx hy hv
      go_enter Try.func31, Try.ntmps31
      go_wp2_with fail
      refine (iIsWheel_any _ _ _ _).mono ?_
      rintro e w1 ⟨rfl, n_w1⟩
      have b0_w1 : w1.cell? ⟨w.heap.size, 0, none⟩ = some (.int .i64 S) := n_w1.cell (by simp [go_sem])
      have b1_w1 : w1.cell? ⟨w.heap.size, 1, none⟩ = some (.int .i64 R) := n_w1.cell (by simp [go_sem])
      have b2_w1 : w1.cell? ⟨w.heap.size, 2, none⟩ = some (.int .i64 V) := n_w1.cell (by simp [go_sem])
      have N1 := Lib.hid (show New w w1 from New.trans (by repeat (first | with_reducible exact New.refl _ | with_reducible assumption | refine New.drewN ?_ _ | refine New.drew ?_ | refine New.alloc ?_ _ | refine New.setCell ?_ (by first | omega | (simp; omega) | (simp; done)) _ | (refine New.trans ?_ (by assumption)))) n_w1); clear n_w1
      rw [H.out]
      go_wp2_with fail
      refine (isTime_any _ _).mono ?_
      rintro e w9 ⟨rfl, rfl⟩
      rw [HT.out]
      go_upto_region 3 with fail
      go_region_held3 (fun w' => w'.cell? ⟨w.heap.size, 0, none⟩ = some (.int .i64 S) ∧ w'.cell? ⟨w.heap.size, 1, none⟩ = some (.int .i64 R) ∧ w'.cell? ⟨w.heap.size, 2, none⟩ = some (.int .i64 V))
        (first | with_reducible exact ⟨b0_w1, b1_w1, b2_w1⟩ | with_reducible exact ⟨b0_u1, b1_u1, b2_u1⟩ | exact ⟨b0_w1, b1_w1, b2_w1⟩ | fail)
        (first
          | (go_at_call 42; refine (FA.out _).mono ?_; rintro e u1 ⟨rfl, n_u1⟩; (try replace n_u1 := New.undrew n_u1); have b0_u1 : u1.cell? ⟨w.heap.size, 0, none⟩ = some (.int .i64 S) := n_u1.cell b0_w1; have b1_u1 : u1.cell? ⟨w.heap.size, 1, none⟩ = some (.int .i64 R) := n_u1.cell b1_w1; have b2_u1 : u1.cell? ⟨w.heap.size, 2, none⟩ = some (.int .i64 V) := n_u1.cell b2_w1;  skip))
      have K_u1 := Lib.hid (show New w1 u1 from n_u1); clear n_u1
      go_wp2_with fail
      refine (FA.out _).mono ?_
      rintro e u9 ⟨rfl, n_u9⟩
      have K_u9 := Lib.hid n_u9; clear n_u9
      go_wp2
      go_ret2
      exact ⟨by rw [HM0.out, HW.out]; first | rfl | simp [*], ((N1.out.trans K_u1.out).trans K_u9.out)⟩
    · have hf := bool_nt ht
      have hw : waB S R V t = false := by unfold waB; rw [h, hf]; rfl
      have HW := Lib.hid hw
      have HM0 := Lib.hid (show sbM S R V t = 0 by unfold sbM; rw [hw]; rfl)
      have H := Lib.hid h; have HT := Lib.hid hf; clear h ht hf hw
      go_enter Try.func31, Try.ntmps31
      go_wp2_with fail
      refine (iIsWheel_any _ _ _ _).mono ?_
      rintro e w1 ⟨rfl, n_w1⟩
      have b0_w1 : w1.cell? ⟨w.heap.size, 0, none⟩ = some (.int .i64 S) := n_w1.cell (by simp [go_sem])
      have b1_w1 : w1.cell? ⟨w.heap.size, 1, none⟩ = some (.int .i64 R) := n_w1.cell (by simp [go_sem])
      have b2_w1 : w1.cell? ⟨w.heap.size, 2, none⟩ = some (.int .i64 V) := n_w1.cell (by simp [go_sem])
      have N1 := Lib.hid (show New w w1 from New.trans (by repeat (first | with_reducible exact New.refl _ | with_reducible assumption | refine New.drewN ?_ _ | refine New.drew ?_ | refine New.alloc ?_ _ | refine New.setCell ?_ (by first | omega | (simp; omega) | (simp; done)) _ | (refine New.trans ?_ (by assumption)))) n_w1); clear n_w1
      rw [H.out]
      go_wp2_with fail
      refine (isTime_any _ _).mono ?_
      rintro e w9 ⟨rfl, rfl⟩
      rw [HT.out]
      go_wp2
      go_ret2
      exact ⟨by rw [HM0.out, HW.out]; rfl, N1.out⟩
  · have hf := bool_nt h
    have hw : waB S R V t = false := by unfold waB; rw [hf]; rfl
    have HW := Lib.hid hw
    have HM0 := Lib.hid (show sbM S R V t = 0 by unfold sbM; rw [hw]; rfl)
    have H := Lib.hid hf; clear h hf hw
    go_enter Try.func31, Try.ntmps31
    go_wp2_with fail
    refine (iIsWheel_any _ _ _ _).mono ?_
    rintro e w1 ⟨rfl, n_w1⟩
    have b0_w1 : w1.cell? ⟨w.heap.size, 0, none⟩ = some (.int .i64 S) := n_w1.cell (by simp [go_sem])
    have b1_w1 : w1.cell? ⟨w.heap.size, 1, none⟩ = some (.int .i64 R) := n_w1.cell (by simp [go_sem])
    have b2_w1 : w1.cell? ⟨w.heap.size, 2, none⟩ = some (.int .i64 V) := n_w1.cell (by simp [go_sem])
    have N1 := Lib.hid (show New w w1 from New.trans (by repeat (first | with_reducible exact New.refl _ | with_reducible assumption | refine New.drewN ?_ _ | refine New.drew ?_ | refine New.alloc ?_ _ | refine New.setCell ?_ (by first | omega | (simp; omega) | (simp; done)) _ | (refine New.trans ?_ (by assumption)))) n_w1); clear n_w1
    rw [H.out]
    go_wp2
    go_ret2
    exact ⟨by rw [HM0.out, HW.out]; rfl, N1.out⟩
end Go.Proofs.Ytjkfedhpgionjaa
