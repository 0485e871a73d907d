/- The model's functions of chapter 1: indices, moves, amounts. -/
import Derived.Test.YtidklnpohgmnpaaSpec2
namespace Go.Proofs.Ytidklnpohgmnpaa
open Go.RowKit

theorem ret_pair {a b : Int} {c d : Bool} (h : (a, c) = (b, d)) : Ending.returned (.tuple #[.int .i64 a, .bool c]) = .returned (.tuple #[.int .i64 b, .bool d]) := by cases h; rfl
theorem ret_bools {a b : Bool} {c d : Bool} (h : (a, c) = (b, d)) : Ending.returned (.tuple #[.bool a, .bool c]) = .returned (.tuple #[.bool b, .bool d]) := by cases h; rfl

theorem veOne_any (w : World) (aa ab : Option Addr) (n m ca cb : Nat) (S H : List Int) (i : Int) (h1 : Ints w aa n ca S) (h2 : Ints w ab m cb H) :
    Calls Try.prog 51 #[.agg #[.slice aa n ca, .slice ab m cb], .int .i64 i] w fun e w' => e = .returned (.bool (oneB S H i)) ∧ New w w' := by
  have HA := Lib.hid h1; clear h1
  have HB := Lib.hid h2; clear h2
  by_cases hg : goodB S H = true
  · have hG := goodB_iff.1 hg
    have hl := hG.1
    have hn := HA.out.len
    have q1 : 1 ≤ n := by omega
    have q2 : n ≤ 5 := by omega
    have HN := Lib.hid hn; clear hn
    clear hl hG
    go_enter Try.func51, Try.ntmps51
    go_wp2_with fail
    refine (veGood_any _ _ _ _ _ _ _ _ _ (HA.out.new (by repeat (first | with_reducible exact New.refl _ | with_reducible assumption | refine New.drewN ?_ _ | refine New.drew ?_ | refine New.alloc ?_ _ | refine New.setCell ?_ (by first | omega | (simp; omega) | (simp; done)) _ | (refine New.trans ?_ (by assumption))))) (HB.out.new (by repeat (first | with_reducible exact New.refl _ | with_reducible assumption | refine New.drewN ?_ _ | refine New.drew ?_ | refine New.alloc ?_ _ | refine New.setCell ?_ (by first | omega | (simp; omega) | (simp; done)) _ | (refine New.trans ?_ (by assumption)))))).mono ?_
    rintro e w1 ⟨rfl, n1⟩
    obtain ⟨hc, hf, hz⟩ := bcell n1
    have N1 := Lib.hid n1; clear n1
    go_wp2_with fail
    refine (l1In_any _ _ _ _).mono ?_
    rintro e w2 ⟨rfl, rfl⟩
    go_wp2
    go_ret
    exact ⟨ret_bool (by unfold oneB; rw [hg, ← HN.out]; rfl), New.trans (by repeat (first | with_reducible exact New.refl _ | with_reducible assumption | refine New.drewN ?_ _ | refine New.drew ?_ | refine New.alloc ?_ _ | refine New.setCell ?_ (by first | omega | (simp; omega) | (simp; done)) _ | (refine New.trans ?_ (by assumption)))) N1.out⟩
  · have hg' : goodB S H = false := by simpa using hg
    go_enter Try.func51, Try.ntmps51
    go_wp2_with fail
    refine (veGood_any _ _ _ _ _ _ _ _ _ (HA.out.new (by repeat (first | with_reducible exact New.refl _ | with_reducible assumption | refine New.drewN ?_ _ | refine New.drew ?_ | refine New.alloc ?_ _ | refine New.setCell ?_ (by first | omega | (simp; omega) | (simp; done)) _ | (refine New.trans ?_ (by assumption))))) (HB.out.new (by repeat (first | with_reducible exact New.refl _ | with_reducible assumption | refine New.drewN ?_ _ | refine New.drew ?_ | refine New.alloc ?_ _ | refine New.setCell ?_ (by first | omega | (simp; omega) | (simp; done)) _ | (refine New.trans ?_ (by assumption)))))).mono ?_
    rintro e w1 ⟨rfl, n1⟩
    go_wp2
    go_ret
    exact ⟨ret_bool (by unfold oneB; rw [hg']; rfl), New.trans (by repeat (first | with_reducible exact New.refl _ | with_reducible assumption | refine New.drewN ?_ _ | refine New.drew ?_ | refine New.alloc ?_ _ | refine New.setCell ?_ (by first | omega | (simp; omega) | (simp; done)) _ | (refine New.trans ?_ (by assumption)))) n1⟩

theorem moveB_eq (n : Nat) (f t : Int) : moveB n f t = (inB (-1) ((n : Int) - 1) f && inB (-1) ((n : Int) - 1) t && (f != t)) := by
  rw [Bool.eq_iff_iff, moveB_iff]
  simp only [Bool.and_eq_true, inB_iff, bne_iff_ne, MoveOk]
  omega
end Go.Proofs.Ytidklnpohgmnpaa
