/- The model's functions of chapter 1: indices, moves, amounts. -/
import Derived.Test.YtfkhpgbidgogdaaDoorSpec2
namespace Go.Proofs.YtfkhpgbidgogdaaDoor
open Go.RowKit

theorem ret_pair {a b : Int} {c d : Bool} (h : (a, c) = (b, d)) : Ending.returned (.tuple #[.int .i64 a, .bool c]) = .returned (.tuple #[.int .i64 b, .bool d]) := by cases h; rfl
theorem ret_bools {a b : Bool} {c d : Bool} (h : (a, c) = (b, d)) : Ending.returned (.tuple #[.bool a, .bool c]) = .returned (.tuple #[.bool b, .bool d]) := by cases h; rfl

theorem moveB_eq (n : Nat) (f t : Int) : moveB n f t = (inB (-1) ((n : Int) - 1) f && inB (-1) ((n : Int) - 1) t && (f != t)) := by
  rw [Bool.eq_iff_iff, moveB_iff]
  simp only [Bool.and_eq_true, inB_iff, bne_iff_ne, MoveOk]
  omega

theorem veMove_any (w : World) (n : Nat) (f t : Int) (hn : n ≤ 5) :
    Calls Tryd.prog 7 #[.int .i64 n, .agg #[.int .i64 f, .int .i64 t]] w fun e w' => e = .returned (.bool (moveB n f t)) ∧ New w w' := by
  have HE := Lib.hid (moveB_eq n f t)
  by_cases h1 : inB (-1) ((n : Int) - 1) f = true
  · by_cases h2 : inB (-1) ((n : Int) - 1) t = true
    · go_enter Tryd.func7, Tryd.ntmps7
      go_wp2_with fail
      refine (l1In_any _ _ _ _).mono ?_
      rintro e w1 ⟨rfl, rfl⟩
      go_wp2_with fail
      refine (l1In_any _ _ _ _).mono ?_
      rintro e w1 ⟨rfl, rfl⟩
      go_wp2
      go_ret
      exact ⟨ret_bool (by rw [HE.out, h1, h2]; rfl), (by repeat (first | with_reducible exact New.refl _ | with_reducible assumption | refine New.drewN ?_ _ | refine New.drew ?_ | refine New.alloc ?_ _ | refine New.setCell ?_ (by first | omega | (simp; omega) | (simp; done)) _ | (refine New.trans ?_ (by assumption))))⟩
    · have h2' : inB (-1) ((n : Int) - 1) t = false := by simpa using h2
      go_enter Tryd.func7, Tryd.ntmps7
      go_wp2_with fail
      refine (l1In_any _ _ _ _).mono ?_
      rintro e w1 ⟨rfl, rfl⟩
      go_wp2_with fail
      refine (l1In_any _ _ _ _).mono ?_
      rintro e w1 ⟨rfl, rfl⟩
      go_wp2
      go_ret
      exact ⟨ret_bool (by rw [HE.out, h1, h2']; rfl), (by repeat (first | with_reducible exact New.refl _ | with_reducible assumption | refine New.drewN ?_ _ | refine New.drew ?_ | refine New.alloc ?_ _ | refine New.setCell ?_ (by first | omega | (simp; omega) | (simp; done)) _ | (refine New.trans ?_ (by assumption))))⟩
  · have h1' : inB (-1) ((n : Int) - 1) f = false := by simpa using h1
    go_enter Tryd.func7, Tryd.ntmps7
    go_wp2_with fail
    refine (l1In_any _ _ _ _).mono ?_
    rintro e w1 ⟨rfl, rfl⟩
    go_wp2
    go_ret
    exact ⟨ret_bool (by rw [HE.out, h1']; rfl), (by repeat (first | with_reducible exact New.refl _ | with_reducible assumption | refine New.drewN ?_ _ | refine New.drew ?_ | refine New.alloc ?_ _ | refine New.setCell ?_ (by first | omega | (simp; omega) | (simp; done)) _ | (refine New.trans ?_ (by assumption))))⟩
end Go.Proofs.YtfkhpgbidgogdaaDoor
