/- The model's functions of chapter 1: indices, moves, amounts. -/
import Derived.Test.YthnhckccmfjcmaaSpec2
namespace Go.Proofs.Ythnhckccmfjcmaa
open Go.RowKit

theorem ret_pair {a b : Int} {c d : Bool} (h : (a, c) = (b, d)) : Ending.returned (.tuple #[.int .i64 a, .bool c]) = .returned (.tuple #[.int .i64 b, .bool d]) := by cases h; rfl
theorem ret_bools {a b : Bool} {c d : Bool} (h : (a, c) = (b, d)) : Ending.returned (.tuple #[.bool a, .bool c]) = .returned (.tuple #[.bool b, .bool d]) := by cases h; rfl

theorem moveB_eq (n : Nat) (f t : Int) : moveB n f t = (inB (-1) ((n : Int) - 1) f && inB (-1) ((n : Int) - 1) t && (f != t)) := by
  rw [Bool.eq_iff_iff, moveB_iff]
  simp only [Bool.and_eq_true, inB_iff, bne_iff_ne, MoveOk]
  omega
end Go.Proofs.Ythnhckccmfjcmaa
