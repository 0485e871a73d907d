/- The program's functions of chapter 1: the amount of a move, one move made. -/
import Derived.Test.YtnbppimaachdhaaImpl4
import Derived.Test.YtnbppimaachdhaaSpec5
namespace Go.Proofs.Ytnbppimaachdhaa
open Go.RowKit

set_option maxHeartbeats 1000000 in
theorem iAmountOf_any (w : World) (aa ab : Option Addr) (n m ca cb : Nat) (S H : List Int) (f t : Int) (h1 : Ints w aa n ca S) (h2 : Ints w ab m cb H) :
    Calls Try.prog 22 #[.agg #[.slice aa n ca, .slice ab m cb], .agg #[.int .i64 f, .int .i64 t]] w fun e w' => e = .returned (.tuple #[.int .i64 (amountM S H f t).1, .bool (amountM S H f t).2]) ∧ New w w' := by
  have HA := Lib.hid h1; clear h1
  have HB := Lib.hid h2; clear h2
  by_cases hg : goodB S H = true
  · have hn := HA.out.len
    have q3 : n ≤ 5 := by have := (goodB_iff.1 hg).1; omega
    by_cases hm : moveB n f t = true
    · have hA : askedB S H f t = true := by unfold askedB; rw [hg, ← hn, hm]; rfl
      have HQ := Lib.hid hA; clear hA
      have HN := Lib.hid hn; clear hn
      go_enter Try.func22, Try.ntmps22
      go_wp2_with fail
      refine (iAreVessels_any _ _ _ _ _ _ _ _ _ (HA.out.new (by repeat (first | with_reducible exact New.refl _ | with_reducible assumption | refine New.drewN ?_ _ | refine New.drew ?_ | refine New.alloc ?_ _ | refine New.setCell ?_ (by first | omega | (simp; omega) | (simp; done)) _ | (refine New.trans ?_ (by assumption))))) (HB.out.new (by repeat (first | with_reducible exact New.refl _ | with_reducible assumption | refine New.drewN ?_ _ | refine New.drew ?_ | refine New.alloc ?_ _ | refine New.setCell ?_ (by first | omega | (simp; omega) | (simp; done)) _ | (refine New.trans ?_ (by assumption)))))).mono ?_
      rintro e w1 ⟨rfl, n1⟩
      have a0 : w1.cell? ⟨w.heap.size, 0, none⟩ = some (.slice aa n ca) := n1.cell (by simp [go_sem])
      have a1 : w1.cell? ⟨w.heap.size, 1, none⟩ = some (.slice ab m cb) := n1.cell (by simp [go_sem])
      have b0 : w1.cell? ⟨w.heap.size + 1, 0, none⟩ = some (.int .i64 f) := n1.cell (by simp [go_sem])
      have b1 : w1.cell? ⟨w.heap.size + 1, 1, none⟩ = some (.int .i64 t) := n1.cell (by simp [go_sem])
      have nw : New w w1 := New.trans (by repeat (first | with_reducible exact New.refl _ | with_reducible assumption | refine New.drewN ?_ _ | refine New.drew ?_ | refine New.alloc ?_ _ | refine New.setCell ?_ (by first | omega | (simp; omega) | (simp; done)) _ | (refine New.trans ?_ (by assumption)))) n1
      have N1 := Lib.hid nw; clear n1 nw
      go_wp2_with fail
      refine (isMoveAmong_any _ _ _ _ q3).mono ?_
      rintro e w2 ⟨rfl, n2⟩
      have a0' := n2.cell a0
      have a1' := n2.cell a1
      have b0' := n2.cell b0
      have b1' := n2.cell b1
      have N2 := Lib.hid (N1.out.trans n2); clear n2 a0 a1 b0 b1
      go_wp2_with fail
      go_region_held3 (fun w' => w'.cell? ⟨w.heap.size, 0, none⟩ = some (.slice aa n ca) ∧ w'.cell? ⟨w.heap.size, 1, none⟩ = some (.slice ab m cb) ∧ w'.cell? ⟨w.heap.size + 1, 0, none⟩ = some (.int .i64 f) ∧ w'.cell? ⟨w.heap.size + 1, 1, none⟩ = some (.int .i64 t))
        (first | exact ⟨a0', a1', b0', b1'⟩ | exact ⟨n3.cell a0', n3.cell a1', n3.cell b0', n3.cell b1'⟩ | exact ⟨n4.cell (n3.cell a0'), n4.cell (n3.cell a1'), n4.cell (n3.cell b0'), n4.cell (n3.cell b1')⟩ | fail)
        (first
          | (go_at_call 39; refine (holdingOf_any _ _ _ _ _ _ _ H ?_ ?_).mono ?_; exact HB.out.new N2.out.drew; exact (by have := (askedB_iff.1 HQ.out).1; have := this.1; have := (askedB_iff.1 HQ.out).1.2.1; omega); rintro e w3 ⟨rfl, n3⟩)
          | (go_at_call 38; refine (amountIn_any _ _ _ _ S H _ _ ?_ ?_ ?_).mono ?_; exact HA.out.new (N2.out.drew.trans n3); exact (askedB_iff.1 HQ.out).1; exact (askedB_iff.1 HQ.out).2; rintro e w4 ⟨rfl, n4⟩))
      go_wp2
      go_ret2
      exact ⟨ret_pair (by simp [amountM, HQ.out]), (N2.out.drew.trans n3).trans n4⟩
    · have hm' : moveB n f t = false := by simpa using hm
      have HQ := Lib.hid (show askedB S H f t = false by unfold askedB; rw [hg, ← hn, hm']; rfl)
      clear hn
      go_enter Try.func22, Try.ntmps22
      go_wp2_with fail
      refine (iAreVessels_any _ _ _ _ _ _ _ _ _ (HA.out.new (by repeat (first | with_reducible exact New.refl _ | with_reducible assumption | refine New.drewN ?_ _ | refine New.drew ?_ | refine New.alloc ?_ _ | refine New.setCell ?_ (by first | omega | (simp; omega) | (simp; done)) _ | (refine New.trans ?_ (by assumption))))) (HB.out.new (by repeat (first | with_reducible exact New.refl _ | with_reducible assumption | refine New.drewN ?_ _ | refine New.drew ?_ | refine New.alloc ?_ _ | refine New.setCell ?_ (by first | omega | (simp; omega) | (simp; done)) _ | (refine New.trans ?_ (by assumption)))))).mono ?_
      rintro e w1 ⟨rfl, n1⟩
      have a0 : w1.cell? ⟨w.heap.size, 0, none⟩ = some (.slice aa n ca) := n1.cell (by simp [go_sem])
      have b0 : w1.cell? ⟨w.heap.size + 1, 0, none⟩ = some (.int .i64 f) := n1.cell (by simp [go_sem])
      have b1 : w1.cell? ⟨w.heap.size + 1, 1, none⟩ = some (.int .i64 t) := n1.cell (by simp [go_sem])
      have nw : New w w1 := New.trans (by repeat (first | with_reducible exact New.refl _ | with_reducible assumption | refine New.drewN ?_ _ | refine New.drew ?_ | refine New.alloc ?_ _ | refine New.setCell ?_ (by first | omega | (simp; omega) | (simp; done)) _ | (refine New.trans ?_ (by assumption)))) n1
      have N1 := Lib.hid nw; clear n1 nw
      go_wp2_with fail
      refine (isMoveAmong_any _ _ _ _ q3).mono ?_
      rintro e w2 ⟨rfl, n2⟩
      go_wp2
      go_ret2
      exact ⟨ret_pair (by simp [amountM, HQ.out]), N1.out.trans n2⟩
  · have hg' : goodB S H = false := by simpa using hg
    have HQ := Lib.hid (show askedB S H f t = false by unfold askedB; rw [hg']; rfl)
    go_enter Try.func22, Try.ntmps22
    go_wp2_with fail
    refine (iAreVessels_any _ _ _ _ _ _ _ _ _ (HA.out.new (by repeat (first | with_reducible exact New.refl _ | with_reducible assumption | refine New.drewN ?_ _ | refine New.drew ?_ | refine New.alloc ?_ _ | refine New.setCell ?_ (by first | omega | (simp; omega) | (simp; done)) _ | (refine New.trans ?_ (by assumption))))) (HB.out.new (by repeat (first | with_reducible exact New.refl _ | with_reducible assumption | refine New.drewN ?_ _ | refine New.drew ?_ | refine New.alloc ?_ _ | refine New.setCell ?_ (by first | omega | (simp; omega) | (simp; done)) _ | (refine New.trans ?_ (by assumption)))))).mono ?_
    rintro e w1 ⟨rfl, n1⟩
    go_wp2
    go_ret2
    exact ⟨ret_pair (by simp [amountM, HQ.out]), New.trans (by repeat (first | with_reducible exact New.refl _ | with_reducible assumption | refine New.drewN ?_ _ | refine New.drew ?_ | refine New.alloc ?_ _ | refine New.setCell ?_ (by first | omega | (simp; omega) | (simp; done)) _ | (refine New.trans ?_ (by assumption)))) n1⟩

/-- What MakeMove comes to: sizes, what is held, whether it succeeds. -/
def makeM (S H : List Int) (f t : Int) : List Int × List Int × Bool := if askedB S H f t = true then (S, poured S H f t, true) else ([], [], false)
theorem makeM_yes {S H : List Int} {f t : Int} (h : askedB S H f t = true) : makeM S H f t = (S, poured S H f t, true) := by simp [makeM, h]
theorem makeM_no {S H : List Int} {f t : Int} (h : askedB S H f t = false) : makeM S H f t = ([], [], false) := by simp [makeM, h]
/-- Vessels that a call returns, of its own make. -/
def RetV (w : World) (S H : List Int) (ok : Bool) (e : Ending) (w' : World) : Prop :=
  ∃ sa n sc sb m sd, e = .returned (.tuple #[.agg #[.slice sa n sc, .slice sb m sd], .bool ok]) ∧ OwnV w' w.heap.size w'.heap.size sa n sc sb m sd S H ∧ New w w'

theorem sMakeMove_any (w : World) (aa ab : Option Addr) (n m ca cb : Nat) (S H : List Int) (f t : Int) (h1 : Ints w aa n ca S) (h2 : Ints w ab m cb H) :
    Calls Try.prog 23 #[.agg #[.slice aa n ca, .slice ab m cb], .agg #[.int .i64 f, .int .i64 t]] w (RetV w (makeM S H f t).1 (makeM S H f t).2.1 (makeM S H f t).2.2) := by
  have HA := Lib.hid h1; clear h1
  have HB := Lib.hid h2; clear h2
  by_cases hg : askedB S H f t = true
  · rw [makeM_yes hg]
    go_enter Try.func23, Try.ntmps23
    go_wp2_with fail
    refine (veAsked_any _ _ _ _ _ _ _ _ _ _ _ (HA.out.new (by repeat (first | with_reducible exact New.refl _ | with_reducible assumption | refine New.drewN ?_ _ | refine New.drew ?_ | refine New.alloc ?_ _ | refine New.setCell ?_ (by first | omega | (simp; omega) | (simp; done)) _ | (refine New.trans ?_ (by assumption))))) (HB.out.new (by repeat (first | with_reducible exact New.refl _ | with_reducible assumption | refine New.drewN ?_ _ | refine New.drew ?_ | refine New.alloc ?_ _ | refine New.setCell ?_ (by first | omega | (simp; omega) | (simp; done)) _ | (refine New.trans ?_ (by assumption)))))).mono ?_
    rintro e w1 ⟨rfl, n1⟩
    have a0 : w1.cell? ⟨w.heap.size, 0, none⟩ = some (.slice aa n ca) := n1.cell (by simp [go_sem])
    have a1 : w1.cell? ⟨w.heap.size, 1, none⟩ = some (.slice ab m cb) := n1.cell (by simp [go_sem])
    have b0 : w1.cell? ⟨w.heap.size + 1, 0, none⟩ = some (.int .i64 f) := n1.cell (by simp [go_sem])
    have b1 : w1.cell? ⟨w.heap.size + 1, 1, none⟩ = some (.int .i64 t) := n1.cell (by simp [go_sem])
    have c0 : w1.cell? ⟨w.heap.size + 1 + 1, 0, none⟩ = some (.slice none 0 0) := n1.cell (by simp [go_sem])
    have c1 : w1.cell? ⟨w.heap.size + 1 + 1, 1, none⟩ = some (.slice none 0 0) := n1.cell (by simp [go_sem])
    have f0 : w1.frozen? ⟨w.heap.size + 1 + 1, 0, none⟩ = false := n1.frz (v := .slice none 0 0) (by simp [go_sem]) (by simp [go_sem])
    have f1 : w1.frozen? ⟨w.heap.size + 1 + 1, 1, none⟩ = false := n1.frz (v := .slice none 0 0) (by simp [go_sem]) (by simp [go_sem])
    have z1 := n1.size
    simp only [World.size_alloc] at z1
    have nw : New w w1 := New.trans (by repeat (first | with_reducible exact New.refl _ | with_reducible assumption | refine New.drewN ?_ _ | refine New.drew ?_ | refine New.alloc ?_ _ | refine New.setCell ?_ (by first | omega | (simp; omega) | (simp; done)) _ | (refine New.trans ?_ (by assumption)))) n1
    have N1 := Lib.hid nw; clear n1 nw
    go_wp2_with fail
    refine (veMake_any _ _ _ _ _ _ _ S H _ _ (HA.out.new N1.out) (HB.out.new N1.out) (askedB_iff.1 hg).1 (askedB_iff.1 hg).2).mono ?_
    rintro e w2 ⟨sa, sc, sb, sd, rfl, o2, n2⟩
    have d0 := n2.cell c0
    have d1 := n2.cell c1
    have g0 := n2.frz c0 f0
    have g1 := n2.frz c1 f1
    have N2 := Lib.hid (N1.out.trans n2); clear n2 c0 c1 f0 f1 a0 a1 b0 b1
    have O2 := Lib.hid o2; clear o2
    go_wp2
    have nn := N2.out
    refine bodyPost_ret (v := .tuple #[.agg #[.slice sa n sc, .slice sb m sd], .bool true]) (by simp [results, Try.results23, go_sem, d0, d1]) rfl ⟨sa, n, sc, sb, m, sd, rfl, ?_, (by repeat (first | with_reducible exact New.refl _ | with_reducible assumption | refine New.drewN ?_ _ | refine New.drew ?_ | refine New.alloc ?_ _ | refine New.setCell ?_ (by first | omega | (simp; omega) | (simp; done)) _ | (refine New.trans ?_ (by assumption))))⟩
    exact ((O2.out.setCell (.inl (by simp; omega)) _).setCell (.inl (by simp; omega)) _).mono (by omega) (by simp)
  · have hg' : askedB S H f t = false := by simpa using hg
    rw [makeM_no hg']
    go_enter Try.func23, Try.ntmps23
    go_wp2_with fail
    refine (veAsked_any _ _ _ _ _ _ _ _ _ _ _ (HA.out.new (by repeat (first | with_reducible exact New.refl _ | with_reducible assumption | refine New.drewN ?_ _ | refine New.drew ?_ | refine New.alloc ?_ _ | refine New.setCell ?_ (by first | omega | (simp; omega) | (simp; done)) _ | (refine New.trans ?_ (by assumption))))) (HB.out.new (by repeat (first | with_reducible exact New.refl _ | with_reducible assumption | refine New.drewN ?_ _ | refine New.drew ?_ | refine New.alloc ?_ _ | refine New.setCell ?_ (by first | omega | (simp; omega) | (simp; done)) _ | (refine New.trans ?_ (by assumption)))))).mono ?_
    rintro e w1 ⟨rfl, n1⟩
    have c0 : w1.cell? ⟨w.heap.size + 1 + 1, 0, none⟩ = some (.slice none 0 0) := n1.cell (by simp [go_sem])
    have c1 : w1.cell? ⟨w.heap.size + 1 + 1, 1, none⟩ = some (.slice none 0 0) := n1.cell (by simp [go_sem])
    have f0 : w1.frozen? ⟨w.heap.size + 1 + 1, 0, none⟩ = false := n1.frz (v := .slice none 0 0) (by simp [go_sem]) (by simp [go_sem])
    have f1 : w1.frozen? ⟨w.heap.size + 1 + 1, 1, none⟩ = false := n1.frz (v := .slice none 0 0) (by simp [go_sem]) (by simp [go_sem])
    have nw : New w w1 := New.trans (by repeat (first | with_reducible exact New.refl _ | with_reducible assumption | refine New.drewN ?_ _ | refine New.drew ?_ | refine New.alloc ?_ _ | refine New.setCell ?_ (by first | omega | (simp; omega) | (simp; done)) _ | (refine New.trans ?_ (by assumption)))) n1
    have N1 := Lib.hid nw; clear n1 nw
    go_wp2
    have nn := N1.out
    exact bodyPost_ret (v := .tuple #[.agg #[.slice none 0 0, .slice none 0 0], .bool false]) (by simp [results, Try.results23, go_sem, c0, c1]) rfl ⟨none, 0, 0, none, 0, 0, rfl, OwnV.nil _ _ _, (by repeat (first | with_reducible exact New.refl _ | with_reducible assumption | refine New.drewN ?_ _ | refine New.drew ?_ | refine New.alloc ?_ _ | refine New.setCell ?_ (by first | omega | (simp; omega) | (simp; done)) _ | (refine New.trans ?_ (by assumption))))⟩
end Go.Proofs.Ytnbppimaachdhaa
