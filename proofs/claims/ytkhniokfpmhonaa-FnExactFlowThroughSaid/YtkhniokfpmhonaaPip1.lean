/- When there is a pipe: the model's and the program's tests. -/
import Derived.Test.YtkhniokfpmhonaaPipM
import Derived.Test.YtkhniokfpmhonaaRatS
namespace Go.Proofs.Ytkhniokfpmhonaa
open Go.RowKit Go.IntWalk

def pipeB (A B : Tk) (h : Int) : Bool := tkB A && tkB B && inB 0 1000 h && decide (A.2.1 ≤ h) && decide (B.2.1 ≤ h)
structure PipeOk (A B : Tk) (h : Int) : Prop where
  a : TkOk A
  b : TkOk B
  h0 : 0 ≤ h
  h1 : h ≤ 1000
  f : A.2.1 ≤ h
  g : B.2.1 ≤ h
theorem pipeB_iff {A B : Tk} {h : Int} : pipeB A B h = true ↔ PipeOk A B h := by
  unfold pipeB
  rw [Bool.and_eq_true, Bool.and_eq_true, Bool.and_eq_true, Bool.and_eq_true, tkB_iff, tkB_iff, inB_iff, decide_eq_true_iff, decide_eq_true_iff]
  exact ⟨fun k => ⟨k.1.1.1.1, k.1.1.1.2, k.1.1.2.1, k.1.1.2.2, k.1.2, k.2⟩, fun k => ⟨⟨⟨⟨k.a, k.b⟩, k.h0, k.h1⟩, k.f⟩, k.g⟩⟩

set_option maxRecDepth 100000 in
theorem lePipe_any (w : World) (a f u b g v h : Int) :
    Calls Try.prog 54 #[tkV a f u, tkV b g v, .int .i64 h] w fun e w' => e = .returned (.bool (pipeB (a, f, u) (b, g, v) h)) ∧ New w w' := by
  by_cases h1 : tkB (a, f, u) = true
  · have ok1 := tkB_iff.1 h1
    have f0 := ok1.f1; simp only at f0
    have H1 := Lib.hid h1
    by_cases h2 : tkB (b, g, v) = true
    · have ok2 := tkB_iff.1 h2
      have g0 := ok2.f1; simp only at g0
      have H2 := Lib.hid h2
      by_cases h3 : inB 0 1000 h = true
      · have i3 := inB_iff.1 h3
        have H3 := Lib.hid h3
        by_cases h4 : f ≤ h
        · by_cases h5 : g ≤ h
          · have HG := Lib.hid (show pipeB (a, f, u) (b, g, v) h = true from pipeB_iff.2 ⟨tkB_iff.1 h1, tkB_iff.1 h2, by omega, by omega, by simp only; omega, by simp only; omega⟩)
            clear ok1 ok2 h1 h2 h3
            go_enter Try.func54, Try.ntmps54
            go_wp2_with fail
            refine (leTank_any _ _ _ _).mono ?_
            rintro e w1 ⟨rfl, n1⟩
            rw [H1.out]
            have p0_1 : w1.cell? ⟨w.heap.size, 0, none⟩ = some (.int .i64 a) := n1.cell (by simp [go_sem])
            have p1_1 : w1.cell? ⟨w.heap.size, 1, none⟩ = some (.int .i64 f) := n1.cell (by simp [go_sem])
            have p2_1 : w1.cell? ⟨w.heap.size, 2, none⟩ = some (.int .i64 u) := n1.cell (by simp [go_sem])
            have q0_1 : w1.cell? ⟨w.heap.size + 1, 0, none⟩ = some (.int .i64 b) := n1.cell (by simp [go_sem])
            have q1_1 : w1.cell? ⟨w.heap.size + 1, 1, none⟩ = some (.int .i64 g) := n1.cell (by simp [go_sem])
            have q2_1 : w1.cell? ⟨w.heap.size + 1, 2, none⟩ = some (.int .i64 v) := n1.cell (by simp [go_sem])
            have N1 := Lib.hid (show New w w1 from New.trans (by repeat (first | with_reducible exact New.refl _ | with_reducible assumption | refine New.drewN ?_ _ | refine New.drew ?_ | refine New.alloc ?_ _ | refine New.setCell ?_ (by first | omega | (simp; omega) | (simp; done)) _ | (refine New.trans ?_ (by assumption)))) n1); clear n1
            go_wp2_with fail
            refine (leTank_any _ _ _ _).mono ?_
            rintro e w2 ⟨rfl, n2⟩
            rw [H2.out]
            have p0_2 : w2.cell? ⟨w.heap.size, 0, none⟩ = some (.int .i64 a) := n2.cell p0_1
            have p1_2 : w2.cell? ⟨w.heap.size, 1, none⟩ = some (.int .i64 f) := n2.cell p1_1
            have p2_2 : w2.cell? ⟨w.heap.size, 2, none⟩ = some (.int .i64 u) := n2.cell p2_1
            have q0_2 : w2.cell? ⟨w.heap.size + 1, 0, none⟩ = some (.int .i64 b) := n2.cell q0_1
            have q1_2 : w2.cell? ⟨w.heap.size + 1, 1, none⟩ = some (.int .i64 g) := n2.cell q1_1
            have q2_2 : w2.cell? ⟨w.heap.size + 1, 2, none⟩ = some (.int .i64 v) := n2.cell q2_1
            have N2 := Lib.hid (show New w w2 from N1.out.trans n2); clear n2
            clear p0_1 p1_1 p2_1 q0_1 q1_1 q2_1
            go_wp2_with fail
            refine (l1In_any _ _ _ _).mono ?_
            rintro e w9 ⟨rfl, rfl⟩
            rw [H3.out]
            go_wp2
            go_ret
            exact ⟨ret_bool (by first | exact HG.out.symm | (rw [HG.out]; exact decide_eq_false (by omega))), N2.out⟩
          · have HG := Lib.hid (show pipeB (a, f, u) (b, g, v) h = false from bool_no fun k => by have k1 := (pipeB_iff.1 k).a; have k2 := (pipeB_iff.1 k).b; have k3 := (pipeB_iff.1 k).h0; have k4 := (pipeB_iff.1 k).h1; have k5 := (pipeB_iff.1 k).f; have k6 := (pipeB_iff.1 k).g; simp only at k5 k6; omega)
            clear ok1 ok2 h1 h2 h3
            go_enter Try.func54, Try.ntmps54
            go_wp2_with fail
            refine (leTank_any _ _ _ _).mono ?_
            rintro e w1 ⟨rfl, n1⟩
            rw [H1.out]
            have p0_1 : w1.cell? ⟨w.heap.size, 0, none⟩ = some (.int .i64 a) := n1.cell (by simp [go_sem])
            have p1_1 : w1.cell? ⟨w.heap.size, 1, none⟩ = some (.int .i64 f) := n1.cell (by simp [go_sem])
            have p2_1 : w1.cell? ⟨w.heap.size, 2, none⟩ = some (.int .i64 u) := n1.cell (by simp [go_sem])
            have q0_1 : w1.cell? ⟨w.heap.size + 1, 0, none⟩ = some (.int .i64 b) := n1.cell (by simp [go_sem])
            have q1_1 : w1.cell? ⟨w.heap.size + 1, 1, none⟩ = some (.int .i64 g) := n1.cell (by simp [go_sem])
            have q2_1 : w1.cell? ⟨w.heap.size + 1, 2, none⟩ = some (.int .i64 v) := n1.cell (by simp [go_sem])
            have N1 := Lib.hid (show New w w1 from New.trans (by repeat (first | with_reducible exact New.refl _ | with_reducible assumption | refine New.drewN ?_ _ | refine New.drew ?_ | refine New.alloc ?_ _ | refine New.setCell ?_ (by first | omega | (simp; omega) | (simp; done)) _ | (refine New.trans ?_ (by assumption)))) n1); clear n1
            go_wp2_with fail
            refine (leTank_any _ _ _ _).mono ?_
            rintro e w2 ⟨rfl, n2⟩
            rw [H2.out]
            have p0_2 : w2.cell? ⟨w.heap.size, 0, none⟩ = some (.int .i64 a) := n2.cell p0_1
            have p1_2 : w2.cell? ⟨w.heap.size, 1, none⟩ = some (.int .i64 f) := n2.cell p1_1
            have p2_2 : w2.cell? ⟨w.heap.size, 2, none⟩ = some (.int .i64 u) := n2.cell p2_1
            have q0_2 : w2.cell? ⟨w.heap.size + 1, 0, none⟩ = some (.int .i64 b) := n2.cell q0_1
            have q1_2 : w2.cell? ⟨w.heap.size + 1, 1, none⟩ = some (.int .i64 g) := n2.cell q1_1
            have q2_2 : w2.cell? ⟨w.heap.size + 1, 2, none⟩ = some (.int .i64 v) := n2.cell q2_1
            have N2 := Lib.hid (show New w w2 from N1.out.trans n2); clear n2
            clear p0_1 p1_1 p2_1 q0_1 q1_1 q2_1
            go_wp2_with fail
            refine (l1In_any _ _ _ _).mono ?_
            rintro e w9 ⟨rfl, rfl⟩
            rw [H3.out]
            go_wp2
            go_ret
            exact ⟨ret_bool (by first | exact HG.out.symm | (rw [HG.out]; exact decide_eq_false (by omega))), N2.out⟩
        · have HG := Lib.hid (show pipeB (a, f, u) (b, g, v) h = false from bool_no fun k => by have k1 := (pipeB_iff.1 k).a; have k2 := (pipeB_iff.1 k).b; have k3 := (pipeB_iff.1 k).h0; have k4 := (pipeB_iff.1 k).h1; have k5 := (pipeB_iff.1 k).f; have k6 := (pipeB_iff.1 k).g; simp only at k5 k6; omega)
          clear ok1 ok2 h1 h2 h3
          go_enter Try.func54, Try.ntmps54
          go_wp2_with fail
          refine (leTank_any _ _ _ _).mono ?_
          rintro e w1 ⟨rfl, n1⟩
          rw [H1.out]
          have p0_1 : w1.cell? ⟨w.heap.size, 0, none⟩ = some (.int .i64 a) := n1.cell (by simp [go_sem])
          have p1_1 : w1.cell? ⟨w.heap.size, 1, none⟩ = some (.int .i64 f) := n1.cell (by simp [go_sem])
          have p2_1 : w1.cell? ⟨w.heap.size, 2, none⟩ = some (.int .i64 u) := n1.cell (by simp [go_sem])
          have q0_1 : w1.cell? ⟨w.heap.size + 1, 0, none⟩ = some (.int .i64 b) := n1.cell (by simp [go_sem])
          have q1_1 : w1.cell? ⟨w.heap.size + 1, 1, none⟩ = some (.int .i64 g) := n1.cell (by simp [go_sem])
          have q2_1 : w1.cell? ⟨w.heap.size + 1, 2, none⟩ = some (.int .i64 v) := n1.cell (by simp [go_sem])
          have N1 := Lib.hid (show New w w1 from New.trans (by repeat (first | with_reducible exact New.refl _ | with_reducible assumption | refine New.drewN ?_ _ | refine New.drew ?_ | refine New.alloc ?_ _ | refine New.setCell ?_ (by first | omega | (simp; omega) | (simp; done)) _ | (refine New.trans ?_ (by assumption)))) n1); clear n1
          go_wp2_with fail
          refine (leTank_any _ _ _ _).mono ?_
          rintro e w2 ⟨rfl, n2⟩
          rw [H2.out]
          have p0_2 : w2.cell? ⟨w.heap.size, 0, none⟩ = some (.int .i64 a) := n2.cell p0_1
          have p1_2 : w2.cell? ⟨w.heap.size, 1, none⟩ = some (.int .i64 f) := n2.cell p1_1
          have p2_2 : w2.cell? ⟨w.heap.size, 2, none⟩ = some (.int .i64 u) := n2.cell p2_1
          have q0_2 : w2.cell? ⟨w.heap.size + 1, 0, none⟩ = some (.int .i64 b) := n2.cell q0_1
          have q1_2 : w2.cell? ⟨w.heap.size + 1, 1, none⟩ = some (.int .i64 g) := n2.cell q1_1
          have q2_2 : w2.cell? ⟨w.heap.size + 1, 2, none⟩ = some (.int .i64 v) := n2.cell q2_1
          have N2 := Lib.hid (show New w w2 from N1.out.trans n2); clear n2
          clear p0_1 p1_1 p2_1 q0_1 q1_1 q2_1
          go_wp2_with fail
          refine (l1In_any _ _ _ _).mono ?_
          rintro e w9 ⟨rfl, rfl⟩
          rw [H3.out]
          go_wp2
          go_ret
          exact ⟨ret_bool (by first | exact HG.out.symm | (rw [HG.out]; exact decide_eq_false (by omega))), N2.out⟩
      · have h3 := bool_no h3
        have i3 := inB_false.1 h3
        have H3 := Lib.hid h3
        have HG := Lib.hid (show pipeB (a, f, u) (b, g, v) h = false from bool_no fun k => by have k1 := (pipeB_iff.1 k).a; have k2 := (pipeB_iff.1 k).b; have k3 := (pipeB_iff.1 k).h0; have k4 := (pipeB_iff.1 k).h1; have k5 := (pipeB_iff.1 k).f; have k6 := (pipeB_iff.1 k).g; simp only at k5 k6; omega)
        clear ok1 ok2 h1 h2 h3 i3
        go_enter Try.func54, Try.ntmps54
        go_wp2_with fail
        refine (leTank_any _ _ _ _).mono ?_
        rintro e w1 ⟨rfl, n1⟩
        rw [H1.out]
        have p0_1 : w1.cell? ⟨w.heap.size, 0, none⟩ = some (.int .i64 a) := n1.cell (by simp [go_sem])
        have p1_1 : w1.cell? ⟨w.heap.size, 1, none⟩ = some (.int .i64 f) := n1.cell (by simp [go_sem])
        have p2_1 : w1.cell? ⟨w.heap.size, 2, none⟩ = some (.int .i64 u) := n1.cell (by simp [go_sem])
        have q0_1 : w1.cell? ⟨w.heap.size + 1, 0, none⟩ = some (.int .i64 b) := n1.cell (by simp [go_sem])
        have q1_1 : w1.cell? ⟨w.heap.size + 1, 1, none⟩ = some (.int .i64 g) := n1.cell (by simp [go_sem])
        have q2_1 : w1.cell? ⟨w.heap.size + 1, 2, none⟩ = some (.int .i64 v) := n1.cell (by simp [go_sem])
        have N1 := Lib.hid (show New w w1 from New.trans (by repeat (first | with_reducible exact New.refl _ | with_reducible assumption | refine New.drewN ?_ _ | refine New.drew ?_ | refine New.alloc ?_ _ | refine New.setCell ?_ (by first | omega | (simp; omega) | (simp; done)) _ | (refine New.trans ?_ (by assumption)))) n1); clear n1
        go_wp2_with fail
        refine (leTank_any _ _ _ _).mono ?_
        rintro e w2 ⟨rfl, n2⟩
        rw [H2.out]
        have p0_2 : w2.cell? ⟨w.heap.size, 0, none⟩ = some (.int .i64 a) := n2.cell p0_1
        have p1_2 : w2.cell? ⟨w.heap.size, 1, none⟩ = some (.int .i64 f) := n2.cell p1_1
        have p2_2 : w2.cell? ⟨w.heap.size, 2, none⟩ = some (.int .i64 u) := n2.cell p2_1
        have q0_2 : w2.cell? ⟨w.heap.size + 1, 0, none⟩ = some (.int .i64 b) := n2.cell q0_1
        have q1_2 : w2.cell? ⟨w.heap.size + 1, 1, none⟩ = some (.int .i64 g) := n2.cell q1_1
        have q2_2 : w2.cell? ⟨w.heap.size + 1, 2, none⟩ = some (.int .i64 v) := n2.cell q2_1
        have N2 := Lib.hid (show New w w2 from N1.out.trans n2); clear n2
        clear p0_1 p1_1 p2_1 q0_1 q1_1 q2_1
        go_wp2_with fail
        refine (l1In_any _ _ _ _).mono ?_
        rintro e w9 ⟨rfl, rfl⟩
        rw [H3.out]
        go_wp2
        go_ret
        exact ⟨ret_bool (by first | exact HG.out.symm | (rw [HG.out]; exact decide_eq_false (by omega))), N2.out⟩
    · have h2 := bool_no h2
      have H2 := Lib.hid h2
      have HG := Lib.hid (show pipeB (a, f, u) (b, g, v) h = false from bool_no fun k => by have k1 := (pipeB_iff.1 k).a; have k2 := (pipeB_iff.1 k).b; have k3 := (pipeB_iff.1 k).h0; have k4 := (pipeB_iff.1 k).h1; have k5 := (pipeB_iff.1 k).f; have k6 := (pipeB_iff.1 k).g; simp only at k5 k6; have := tkB_iff.2 k2; rw [H2.out] at this; cases this)
      clear ok1 h1 h2
      go_enter Try.func54, Try.ntmps54
      go_wp2_with fail
      refine (leTank_any _ _ _ _).mono ?_
      rintro e w1 ⟨rfl, n1⟩
      rw [H1.out]
      have p0_1 : w1.cell? ⟨w.heap.size, 0, none⟩ = some (.int .i64 a) := n1.cell (by simp [go_sem])
      have p1_1 : w1.cell? ⟨w.heap.size, 1, none⟩ = some (.int .i64 f) := n1.cell (by simp [go_sem])
      have p2_1 : w1.cell? ⟨w.heap.size, 2, none⟩ = some (.int .i64 u) := n1.cell (by simp [go_sem])
      have q0_1 : w1.cell? ⟨w.heap.size + 1, 0, none⟩ = some (.int .i64 b) := n1.cell (by simp [go_sem])
      have q1_1 : w1.cell? ⟨w.heap.size + 1, 1, none⟩ = some (.int .i64 g) := n1.cell (by simp [go_sem])
      have q2_1 : w1.cell? ⟨w.heap.size + 1, 2, none⟩ = some (.int .i64 v) := n1.cell (by simp [go_sem])
      have N1 := Lib.hid (show New w w1 from New.trans (by repeat (first | with_reducible exact New.refl _ | with_reducible assumption | refine New.drewN ?_ _ | refine New.drew ?_ | refine New.alloc ?_ _ | refine New.setCell ?_ (by first | omega | (simp; omega) | (simp; done)) _ | (refine New.trans ?_ (by assumption)))) n1); clear n1
      go_wp2_with fail
      refine (leTank_any _ _ _ _).mono ?_
      rintro e w2 ⟨rfl, n2⟩
      rw [H2.out]
      have p0_2 : w2.cell? ⟨w.heap.size, 0, none⟩ = some (.int .i64 a) := n2.cell p0_1
      have p1_2 : w2.cell? ⟨w.heap.size, 1, none⟩ = some (.int .i64 f) := n2.cell p1_1
      have p2_2 : w2.cell? ⟨w.heap.size, 2, none⟩ = some (.int .i64 u) := n2.cell p2_1
      have q0_2 : w2.cell? ⟨w.heap.size + 1, 0, none⟩ = some (.int .i64 b) := n2.cell q0_1
      have q1_2 : w2.cell? ⟨w.heap.size + 1, 1, none⟩ = some (.int .i64 g) := n2.cell q1_1
      have q2_2 : w2.cell? ⟨w.heap.size + 1, 2, none⟩ = some (.int .i64 v) := n2.cell q2_1
      have N2 := Lib.hid (show New w w2 from N1.out.trans n2); clear n2
      clear p0_1 p1_1 p2_1 q0_1 q1_1 q2_1
      go_wp2
      go_ret
      exact ⟨ret_bool (by first | exact HG.out.symm | (rw [HG.out]; exact decide_eq_false (by omega))), N2.out⟩
  · have h1 := bool_no h1
    have H1 := Lib.hid h1
    have HG := Lib.hid (show pipeB (a, f, u) (b, g, v) h = false from bool_no fun k => by have k1 := (pipeB_iff.1 k).a; have k2 := (pipeB_iff.1 k).b; have k3 := (pipeB_iff.1 k).h0; have k4 := (pipeB_iff.1 k).h1; have k5 := (pipeB_iff.1 k).f; have k6 := (pipeB_iff.1 k).g; simp only at k5 k6; have := tkB_iff.2 k1; rw [H1.out] at this; cases this)
    clear h1
    go_enter Try.func54, Try.ntmps54
    go_wp2_with fail
    refine (leTank_any _ _ _ _).mono ?_
    rintro e w1 ⟨rfl, n1⟩
    rw [H1.out]
    have p0_1 : w1.cell? ⟨w.heap.size, 0, none⟩ = some (.int .i64 a) := n1.cell (by simp [go_sem])
    have p1_1 : w1.cell? ⟨w.heap.size, 1, none⟩ = some (.int .i64 f) := n1.cell (by simp [go_sem])
    have p2_1 : w1.cell? ⟨w.heap.size, 2, none⟩ = some (.int .i64 u) := n1.cell (by simp [go_sem])
    have q0_1 : w1.cell? ⟨w.heap.size + 1, 0, none⟩ = some (.int .i64 b) := n1.cell (by simp [go_sem])
    have q1_1 : w1.cell? ⟨w.heap.size + 1, 1, none⟩ = some (.int .i64 g) := n1.cell (by simp [go_sem])
    have q2_1 : w1.cell? ⟨w.heap.size + 1, 2, none⟩ = some (.int .i64 v) := n1.cell (by simp [go_sem])
    have N1 := Lib.hid (show New w w1 from New.trans (by repeat (first | with_reducible exact New.refl _ | with_reducible assumption | refine New.drewN ?_ _ | refine New.drew ?_ | refine New.alloc ?_ _ | refine New.setCell ?_ (by first | omega | (simp; omega) | (simp; done)) _ | (refine New.trans ?_ (by assumption)))) n1); clear n1
    go_wp2
    go_ret
    exact ⟨ret_bool (by first | exact HG.out.symm | (rw [HG.out]; exact decide_eq_false (by omega))), N1.out⟩

set_option maxRecDepth 100000 in
theorem isPipe_any (w : World) (a f u b g v h : Int) :
    Calls Try.prog 56 #[tkV a f u, tkV b g v, .int .i64 h] w fun e w' => e = .returned (.bool (pipeB (a, f, u) (b, g, v) h)) ∧ New w w' := by
  by_cases h1 : tkB (a, f, u) = true
  · have ok1 := tkB_iff.1 h1
    have f0 := ok1.f1; simp only at f0
    have H1 := Lib.hid h1
    by_cases h2 : tkB (b, g, v) = true
    · have ok2 := tkB_iff.1 h2
      have g0 := ok2.f1; simp only at g0
      have H2 := Lib.hid h2
      by_cases h3 : h ≤ 1000
      · by_cases hfg : f < g
        · by_cases h4 : g ≤ h
          · have HG := Lib.hid (show pipeB (a, f, u) (b, g, v) h = true from pipeB_iff.2 ⟨tkB_iff.1 h1, tkB_iff.1 h2, by omega, by omega, by simp only; omega, by simp only; omega⟩)
            clear ok1 ok2 h1 h2
            go_enter Try.func56, Try.ntmps56
            go_wp2_with fail
            refine (iIsTank_any _ _ _ _).mono ?_
            rintro e w1 ⟨rfl, n1⟩
            rw [H1.out]
            have p0_1 : w1.cell? ⟨w.heap.size, 0, none⟩ = some (.int .i64 a) := n1.cell (by simp [go_sem])
            have p1_1 : w1.cell? ⟨w.heap.size, 1, none⟩ = some (.int .i64 f) := n1.cell (by simp [go_sem])
            have p2_1 : w1.cell? ⟨w.heap.size, 2, none⟩ = some (.int .i64 u) := n1.cell (by simp [go_sem])
            have q0_1 : w1.cell? ⟨w.heap.size + 1, 0, none⟩ = some (.int .i64 b) := n1.cell (by simp [go_sem])
            have q1_1 : w1.cell? ⟨w.heap.size + 1, 1, none⟩ = some (.int .i64 g) := n1.cell (by simp [go_sem])
            have q2_1 : w1.cell? ⟨w.heap.size + 1, 2, none⟩ = some (.int .i64 v) := n1.cell (by simp [go_sem])
            have N1 := Lib.hid (show New w w1 from New.trans (by repeat (first | with_reducible exact New.refl _ | with_reducible assumption | refine New.drewN ?_ _ | refine New.drew ?_ | refine New.alloc ?_ _ | refine New.setCell ?_ (by first | omega | (simp; omega) | (simp; done)) _ | (refine New.trans ?_ (by assumption)))) n1); clear n1
            go_wp2_with fail
            refine (iIsTank_any _ _ _ _).mono ?_
            rintro e w2 ⟨rfl, n2⟩
            rw [H2.out]
            have p0_2 : w2.cell? ⟨w.heap.size, 0, none⟩ = some (.int .i64 a) := n2.cell p0_1
            have p1_2 : w2.cell? ⟨w.heap.size, 1, none⟩ = some (.int .i64 f) := n2.cell p1_1
            have p2_2 : w2.cell? ⟨w.heap.size, 2, none⟩ = some (.int .i64 u) := n2.cell p2_1
            have q0_2 : w2.cell? ⟨w.heap.size + 1, 0, none⟩ = some (.int .i64 b) := n2.cell q0_1
            have q1_2 : w2.cell? ⟨w.heap.size + 1, 1, none⟩ = some (.int .i64 g) := n2.cell q1_1
            have q2_2 : w2.cell? ⟨w.heap.size + 1, 2, none⟩ = some (.int .i64 v) := n2.cell q2_1
            have N2 := Lib.hid (show New w w2 from N1.out.trans n2); clear n2
            clear p0_1 p1_1 p2_1 q0_1 q1_1 q2_1
            go_wp2
            go_ret
            exact ⟨ret_bool (by first | exact HG.out.symm | (rw [HG.out]; exact decide_eq_false (by omega))), N2.out⟩
          · have HG := Lib.hid (show pipeB (a, f, u) (b, g, v) h = false from bool_no fun k => by have k1 := (pipeB_iff.1 k).a; have k2 := (pipeB_iff.1 k).b; have k3 := (pipeB_iff.1 k).h0; have k4 := (pipeB_iff.1 k).h1; have k5 := (pipeB_iff.1 k).f; have k6 := (pipeB_iff.1 k).g; simp only at k5 k6; omega)
            have h4f : decide (g ≤ h) = false := by simpa using h4
            clear ok1 ok2 h1 h2
            go_enter Try.func56, Try.ntmps56
            go_wp2_with fail
            refine (iIsTank_any _ _ _ _).mono ?_
            rintro e w1 ⟨rfl, n1⟩
            rw [H1.out]
            have p0_1 : w1.cell? ⟨w.heap.size, 0, none⟩ = some (.int .i64 a) := n1.cell (by simp [go_sem])
            have p1_1 : w1.cell? ⟨w.heap.size, 1, none⟩ = some (.int .i64 f) := n1.cell (by simp [go_sem])
            have p2_1 : w1.cell? ⟨w.heap.size, 2, none⟩ = some (.int .i64 u) := n1.cell (by simp [go_sem])
            have q0_1 : w1.cell? ⟨w.heap.size + 1, 0, none⟩ = some (.int .i64 b) := n1.cell (by simp [go_sem])
            have q1_1 : w1.cell? ⟨w.heap.size + 1, 1, none⟩ = some (.int .i64 g) := n1.cell (by simp [go_sem])
            have q2_1 : w1.cell? ⟨w.heap.size + 1, 2, none⟩ = some (.int .i64 v) := n1.cell (by simp [go_sem])
            have N1 := Lib.hid (show New w w1 from New.trans (by repeat (first | with_reducible exact New.refl _ | with_reducible assumption | refine New.drewN ?_ _ | refine New.drew ?_ | refine New.alloc ?_ _ | refine New.setCell ?_ (by first | omega | (simp; omega) | (simp; done)) _ | (refine New.trans ?_ (by assumption)))) n1); clear n1
            go_wp2_with fail
            refine (iIsTank_any _ _ _ _).mono ?_
            rintro e w2 ⟨rfl, n2⟩
            rw [H2.out]
            have p0_2 : w2.cell? ⟨w.heap.size, 0, none⟩ = some (.int .i64 a) := n2.cell p0_1
            have p1_2 : w2.cell? ⟨w.heap.size, 1, none⟩ = some (.int .i64 f) := n2.cell p1_1
            have p2_2 : w2.cell? ⟨w.heap.size, 2, none⟩ = some (.int .i64 u) := n2.cell p2_1
            have q0_2 : w2.cell? ⟨w.heap.size + 1, 0, none⟩ = some (.int .i64 b) := n2.cell q0_1
            have q1_2 : w2.cell? ⟨w.heap.size + 1, 1, none⟩ = some (.int .i64 g) := n2.cell q1_1
            have q2_2 : w2.cell? ⟨w.heap.size + 1, 2, none⟩ = some (.int .i64 v) := n2.cell q2_1
            have N2 := Lib.hid (show New w w2 from N1.out.trans n2); clear n2
            clear p0_1 p1_1 p2_1 q0_1 q1_1 q2_1
            go_wp2
            go_ret
            exact ⟨ret_bool (by first | exact HG.out.symm | (rw [HG.out]; exact decide_eq_false (by omega))), N2.out⟩
        · by_cases h4 : f ≤ h
          · have HG := Lib.hid (show pipeB (a, f, u) (b, g, v) h = true from pipeB_iff.2 ⟨tkB_iff.1 h1, tkB_iff.1 h2, by omega, by omega, by simp only; omega, by simp only; omega⟩)
            clear ok1 ok2 h1 h2
            go_enter Try.func56, Try.ntmps56
            go_wp2_with fail
            refine (iIsTank_any _ _ _ _).mono ?_
            rintro e w1 ⟨rfl, n1⟩
            rw [H1.out]
            have p0_1 : w1.cell? ⟨w.heap.size, 0, none⟩ = some (.int .i64 a) := n1.cell (by simp [go_sem])
            have p1_1 : w1.cell? ⟨w.heap.size, 1, none⟩ = some (.int .i64 f) := n1.cell (by simp [go_sem])
            have p2_1 : w1.cell? ⟨w.heap.size, 2, none⟩ = some (.int .i64 u) := n1.cell (by simp [go_sem])
            have q0_1 : w1.cell? ⟨w.heap.size + 1, 0, none⟩ = some (.int .i64 b) := n1.cell (by simp [go_sem])
            have q1_1 : w1.cell? ⟨w.heap.size + 1, 1, none⟩ = some (.int .i64 g) := n1.cell (by simp [go_sem])
            have q2_1 : w1.cell? ⟨w.heap.size + 1, 2, none⟩ = some (.int .i64 v) := n1.cell (by simp [go_sem])
            have N1 := Lib.hid (show New w w1 from New.trans (by repeat (first | with_reducible exact New.refl _ | with_reducible assumption | refine New.drewN ?_ _ | refine New.drew ?_ | refine New.alloc ?_ _ | refine New.setCell ?_ (by first | omega | (simp; omega) | (simp; done)) _ | (refine New.trans ?_ (by assumption)))) n1); clear n1
            go_wp2_with fail
            refine (iIsTank_any _ _ _ _).mono ?_
            rintro e w2 ⟨rfl, n2⟩
            rw [H2.out]
            have p0_2 : w2.cell? ⟨w.heap.size, 0, none⟩ = some (.int .i64 a) := n2.cell p0_1
            have p1_2 : w2.cell? ⟨w.heap.size, 1, none⟩ = some (.int .i64 f) := n2.cell p1_1
            have p2_2 : w2.cell? ⟨w.heap.size, 2, none⟩ = some (.int .i64 u) := n2.cell p2_1
            have q0_2 : w2.cell? ⟨w.heap.size + 1, 0, none⟩ = some (.int .i64 b) := n2.cell q0_1
            have q1_2 : w2.cell? ⟨w.heap.size + 1, 1, none⟩ = some (.int .i64 g) := n2.cell q1_1
            have q2_2 : w2.cell? ⟨w.heap.size + 1, 2, none⟩ = some (.int .i64 v) := n2.cell q2_1
            have N2 := Lib.hid (show New w w2 from N1.out.trans n2); clear n2
            clear p0_1 p1_1 p2_1 q0_1 q1_1 q2_1
            go_wp2
            go_ret
            exact ⟨ret_bool (by first | exact HG.out.symm | (rw [HG.out]; exact decide_eq_false (by omega))), N2.out⟩
          · have HG := Lib.hid (show pipeB (a, f, u) (b, g, v) h = false from bool_no fun k => by have k1 := (pipeB_iff.1 k).a; have k2 := (pipeB_iff.1 k).b; have k3 := (pipeB_iff.1 k).h0; have k4 := (pipeB_iff.1 k).h1; have k5 := (pipeB_iff.1 k).f; have k6 := (pipeB_iff.1 k).g; simp only at k5 k6; omega)
            have h4f : decide (f ≤ h) = false := by simpa using h4
            clear ok1 ok2 h1 h2
            go_enter Try.func56, Try.ntmps56
            go_wp2_with fail
            refine (iIsTank_any _ _ _ _).mono ?_
            rintro e w1 ⟨rfl, n1⟩
            rw [H1.out]
            have p0_1 : w1.cell? ⟨w.heap.size, 0, none⟩ = some (.int .i64 a) := n1.cell (by simp [go_sem])
            have p1_1 : w1.cell? ⟨w.heap.size, 1, none⟩ = some (.int .i64 f) := n1.cell (by simp [go_sem])
            have p2_1 : w1.cell? ⟨w.heap.size, 2, none⟩ = some (.int .i64 u) := n1.cell (by simp [go_sem])
            have q0_1 : w1.cell? ⟨w.heap.size + 1, 0, none⟩ = some (.int .i64 b) := n1.cell (by simp [go_sem])
            have q1_1 : w1.cell? ⟨w.heap.size + 1, 1, none⟩ = some (.int .i64 g) := n1.cell (by simp [go_sem])
            have q2_1 : w1.cell? ⟨w.heap.size + 1, 2, none⟩ = some (.int .i64 v) := n1.cell (by simp [go_sem])
            have N1 := Lib.hid (show New w w1 from New.trans (by repeat (first | with_reducible exact New.refl _ | with_reducible assumption | refine New.drewN ?_ _ | refine New.drew ?_ | refine New.alloc ?_ _ | refine New.setCell ?_ (by first | omega | (simp; omega) | (simp; done)) _ | (refine New.trans ?_ (by assumption)))) n1); clear n1
            go_wp2_with fail
            refine (iIsTank_any _ _ _ _).mono ?_
            rintro e w2 ⟨rfl, n2⟩
            rw [H2.out]
            have p0_2 : w2.cell? ⟨w.heap.size, 0, none⟩ = some (.int .i64 a) := n2.cell p0_1
            have p1_2 : w2.cell? ⟨w.heap.size, 1, none⟩ = some (.int .i64 f) := n2.cell p1_1
            have p2_2 : w2.cell? ⟨w.heap.size, 2, none⟩ = some (.int .i64 u) := n2.cell p2_1
            have q0_2 : w2.cell? ⟨w.heap.size + 1, 0, none⟩ = some (.int .i64 b) := n2.cell q0_1
            have q1_2 : w2.cell? ⟨w.heap.size + 1, 1, none⟩ = some (.int .i64 g) := n2.cell q1_1
            have q2_2 : w2.cell? ⟨w.heap.size + 1, 2, none⟩ = some (.int .i64 v) := n2.cell q2_1
            have N2 := Lib.hid (show New w w2 from N1.out.trans n2); clear n2
            clear p0_1 p1_1 p2_1 q0_1 q1_1 q2_1
            go_wp2
            go_ret
            exact ⟨ret_bool (by first | exact HG.out.symm | (rw [HG.out]; exact decide_eq_false (by omega))), N2.out⟩
      · have HG := Lib.hid (show pipeB (a, f, u) (b, g, v) h = false from bool_no fun k => by have k1 := (pipeB_iff.1 k).a; have k2 := (pipeB_iff.1 k).b; have k3 := (pipeB_iff.1 k).h0; have k4 := (pipeB_iff.1 k).h1; have k5 := (pipeB_iff.1 k).f; have k6 := (pipeB_iff.1 k).g; simp only at k5 k6; omega)
        have h3f : decide (h ≤ 1000) = false := by simpa using h3
        clear ok1 ok2 h1 h2
        go_enter Try.func56, Try.ntmps56
        go_wp2_with fail
        refine (iIsTank_any _ _ _ _).mono ?_
        rintro e w1 ⟨rfl, n1⟩
        rw [H1.out]
        have p0_1 : w1.cell? ⟨w.heap.size, 0, none⟩ = some (.int .i64 a) := n1.cell (by simp [go_sem])
        have p1_1 : w1.cell? ⟨w.heap.size, 1, none⟩ = some (.int .i64 f) := n1.cell (by simp [go_sem])
        have p2_1 : w1.cell? ⟨w.heap.size, 2, none⟩ = some (.int .i64 u) := n1.cell (by simp [go_sem])
        have q0_1 : w1.cell? ⟨w.heap.size + 1, 0, none⟩ = some (.int .i64 b) := n1.cell (by simp [go_sem])
        have q1_1 : w1.cell? ⟨w.heap.size + 1, 1, none⟩ = some (.int .i64 g) := n1.cell (by simp [go_sem])
        have q2_1 : w1.cell? ⟨w.heap.size + 1, 2, none⟩ = some (.int .i64 v) := n1.cell (by simp [go_sem])
        have N1 := Lib.hid (show New w w1 from New.trans (by repeat (first | with_reducible exact New.refl _ | with_reducible assumption | refine New.drewN ?_ _ | refine New.drew ?_ | refine New.alloc ?_ _ | refine New.setCell ?_ (by first | omega | (simp; omega) | (simp; done)) _ | (refine New.trans ?_ (by assumption)))) n1); clear n1
        go_wp2_with fail
        refine (iIsTank_any _ _ _ _).mono ?_
        rintro e w2 ⟨rfl, n2⟩
        rw [H2.out]
        have p0_2 : w2.cell? ⟨w.heap.size, 0, none⟩ = some (.int .i64 a) := n2.cell p0_1
        have p1_2 : w2.cell? ⟨w.heap.size, 1, none⟩ = some (.int .i64 f) := n2.cell p1_1
        have p2_2 : w2.cell? ⟨w.heap.size, 2, none⟩ = some (.int .i64 u) := n2.cell p2_1
        have q0_2 : w2.cell? ⟨w.heap.size + 1, 0, none⟩ = some (.int .i64 b) := n2.cell q0_1
        have q1_2 : w2.cell? ⟨w.heap.size + 1, 1, none⟩ = some (.int .i64 g) := n2.cell q1_1
        have q2_2 : w2.cell? ⟨w.heap.size + 1, 2, none⟩ = some (.int .i64 v) := n2.cell q2_1
        have N2 := Lib.hid (show New w w2 from N1.out.trans n2); clear n2
        clear p0_1 p1_1 p2_1 q0_1 q1_1 q2_1
        go_wp2
        go_ret
        exact ⟨ret_bool (by first | exact HG.out.symm | (rw [HG.out]; exact decide_eq_false (by omega))), N2.out⟩
    · have h2 := bool_no h2
      have H2 := Lib.hid h2
      have HG := Lib.hid (show pipeB (a, f, u) (b, g, v) h = false from bool_no fun k => by have k1 := (pipeB_iff.1 k).a; have k2 := (pipeB_iff.1 k).b; have k3 := (pipeB_iff.1 k).h0; have k4 := (pipeB_iff.1 k).h1; have k5 := (pipeB_iff.1 k).f; have k6 := (pipeB_iff.1 k).g; simp only at k5 k6; have := tkB_iff.2 k2; rw [H2.out] at this; cases this)
      clear ok1 h1 h2
      go_enter Try.func56, Try.ntmps56
      go_wp2_with fail
      refine (iIsTank_any _ _ _ _).mono ?_
      rintro e w1 ⟨rfl, n1⟩
      rw [H1.out]
      have p0_1 : w1.cell? ⟨w.heap.size, 0, none⟩ = some (.int .i64 a) := n1.cell (by simp [go_sem])
      have p1_1 : w1.cell? ⟨w.heap.size, 1, none⟩ = some (.int .i64 f) := n1.cell (by simp [go_sem])
      have p2_1 : w1.cell? ⟨w.heap.size, 2, none⟩ = some (.int .i64 u) := n1.cell (by simp [go_sem])
      have q0_1 : w1.cell? ⟨w.heap.size + 1, 0, none⟩ = some (.int .i64 b) := n1.cell (by simp [go_sem])
      have q1_1 : w1.cell? ⟨w.heap.size + 1, 1, none⟩ = some (.int .i64 g) := n1.cell (by simp [go_sem])
      have q2_1 : w1.cell? ⟨w.heap.size + 1, 2, none⟩ = some (.int .i64 v) := n1.cell (by simp [go_sem])
      have N1 := Lib.hid (show New w w1 from New.trans (by repeat (first | with_reducible exact New.refl _ | with_reducible assumption | refine New.drewN ?_ _ | refine New.drew ?_ | refine New.alloc ?_ _ | refine New.setCell ?_ (by first | omega | (simp; omega) | (simp; done)) _ | (refine New.trans ?_ (by assumption)))) n1); clear n1
      go_wp2_with fail
      refine (iIsTank_any _ _ _ _).mono ?_
      rintro e w2 ⟨rfl, n2⟩
      rw [H2.out]
      have p0_2 : w2.cell? ⟨w.heap.size, 0, none⟩ = some (.int .i64 a) := n2.cell p0_1
      have p1_2 : w2.cell? ⟨w.heap.size, 1, none⟩ = some (.int .i64 f) := n2.cell p1_1
      have p2_2 : w2.cell? ⟨w.heap.size, 2, none⟩ = some (.int .i64 u) := n2.cell p2_1
      have q0_2 : w2.cell? ⟨w.heap.size + 1, 0, none⟩ = some (.int .i64 b) := n2.cell q0_1
      have q1_2 : w2.cell? ⟨w.heap.size + 1, 1, none⟩ = some (.int .i64 g) := n2.cell q1_1
      have q2_2 : w2.cell? ⟨w.heap.size + 1, 2, none⟩ = some (.int .i64 v) := n2.cell q2_1
      have N2 := Lib.hid (show New w w2 from N1.out.trans n2); clear n2
      clear p0_1 p1_1 p2_1 q0_1 q1_1 q2_1
      go_wp2
      go_ret
      exact ⟨ret_bool (by first | exact HG.out.symm | (rw [HG.out]; exact decide_eq_false (by omega))), N2.out⟩
  · have h1 := bool_no h1
    have H1 := Lib.hid h1
    have HG := Lib.hid (show pipeB (a, f, u) (b, g, v) h = false from bool_no fun k => by have k1 := (pipeB_iff.1 k).a; have k2 := (pipeB_iff.1 k).b; have k3 := (pipeB_iff.1 k).h0; have k4 := (pipeB_iff.1 k).h1; have k5 := (pipeB_iff.1 k).f; have k6 := (pipeB_iff.1 k).g; simp only at k5 k6; have := tkB_iff.2 k1; rw [H1.out] at this; cases this)
    clear h1
    go_enter Try.func56, Try.ntmps56
    go_wp2_with fail
    refine (iIsTank_any _ _ _ _).mono ?_
    rintro e w1 ⟨rfl, n1⟩
    rw [H1.out]
    have p0_1 : w1.cell? ⟨w.heap.size, 0, none⟩ = some (.int .i64 a) := n1.cell (by simp [go_sem])
    have p1_1 : w1.cell? ⟨w.heap.size, 1, none⟩ = some (.int .i64 f) := n1.cell (by simp [go_sem])
    have p2_1 : w1.cell? ⟨w.heap.size, 2, none⟩ = some (.int .i64 u) := n1.cell (by simp [go_sem])
    have q0_1 : w1.cell? ⟨w.heap.size + 1, 0, none⟩ = some (.int .i64 b) := n1.cell (by simp [go_sem])
    have q1_1 : w1.cell? ⟨w.heap.size + 1, 1, none⟩ = some (.int .i64 g) := n1.cell (by simp [go_sem])
    have q2_1 : w1.cell? ⟨w.heap.size + 1, 2, none⟩ = some (.int .i64 v) := n1.cell (by simp [go_sem])
    have N1 := Lib.hid (show New w w1 from New.trans (by repeat (first | with_reducible exact New.refl _ | with_reducible assumption | refine New.drewN ?_ _ | refine New.drew ?_ | refine New.alloc ?_ _ | refine New.setCell ?_ (by first | omega | (simp; omega) | (simp; done)) _ | (refine New.trans ?_ (by assumption)))) n1); clear n1
    go_wp2
    go_ret
    exact ⟨ret_bool (by first | exact HG.out.symm | (rw [HG.out]; exact decide_eq_false (by omega))), N1.out⟩
end Go.Proofs.Ytkhniokfpmhonaa
