/- All amounts that are measured, all that the vessels hold together: what is answered. -/
import Derived.Test.YtilepckgcgdjgaaLayI
import Derived.Test.YtilepckgcgdjgaaNums
namespace Go.Proofs.Ytilepckgcgdjgaa
open Go.RowKit

def amoM (S H : List Int) (cl : Bool) : List Int × Bool := if countB S H cl = true then (numK (heldL (endN S H cl 3000) (endN S H cl 3000).length) 61, true) else ([], false)
theorem amoM_yes {S H : List Int} {cl : Bool} (h : countB S H cl = true) : amoM S H cl = (numK (heldL (endN S H cl 3000) (endN S H cl 3000).length) 61, true) := by simp [amoM, h]
theorem amoM_no {S H : List Int} {cl : Bool} (h : countB S H cl = false) : amoM S H cl = ([], false) := by simp [amoM, h]
theorem amoM_small (S H : List Int) (cl : Bool) : (amoM S H cl).1.length ≤ 1048576 := Nat.le_trans (layP_small (ok := countB S H cl) (n := 61) fun _ => numK_len _ _) (by omega)
def totM (S H : List Int) : List Int × Bool := if countB S H false = true then (numK (totL (endN S H false 3000) (endN S H false 3000).length) 301, true) else ([], false)
theorem totM_yes {S H : List Int} (h : countB S H false = true) : totM S H = (numK (totL (endN S H false 3000) (endN S H false 3000).length) 301, true) := by simp [totM, h]
theorem totM_no {S H : List Int} (h : countB S H false = false) : totM S H = ([], false) := by simp [totM, h]
theorem totM_small (S H : List Int) : (totM S H).1.length ≤ 1048576 := Nat.le_trans (layP_small (ok := countB S H false) (n := 301) fun _ => numK_len _ _) (by omega)
end Go.Proofs.Ytilepckgcgdjgaa
