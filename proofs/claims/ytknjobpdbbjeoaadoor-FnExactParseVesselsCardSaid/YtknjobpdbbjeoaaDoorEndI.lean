/- The text of one end of a move, the program's and the model's; the text of a move. -/
import Derived.Test.YtknjobpdbbjeoaaDoorSpec3
import Derived.Test.YtknjobpdbbjeoaaDoorImpl3
import Derived.Test.YtknjobpdbbjeoaaDoorOpen
import Derived.Laws.BytesArg
namespace Go.Proofs.YtknjobpdbbjeoaaDoor
open Go.RowKit

/-- The text of one end: a letter for the outside, a digit else. -/
def endT (e : Int) (c : UInt8) : ByteArray := if e = -1 then ⟨#[c]⟩ else ⟨#[(48 + e.toNat).toUInt8]⟩
theorem endT_size (e : Int) (c : UInt8) : (endT e c).size = 1 := by unfold endT; split <;> rfl
/-- The text of a move, and if there is one. -/
def moveT (f t : Int) : ByteArray := if moveB 5 f t = true then endT f 116 ++ ⟨#[62]⟩ ++ endT t 100 else ⟨#[]⟩

theorem small_any (w : World) (k : Int) (h0 : 0 ≤ k) (h5 : k < 5) :
    Calls Tryd.prog 54 #[.int .i64 k] w fun e w' => e = .returned (.string (endT k 116)) ∧ New w w' := by
  have hk : k = 0 ∨ k = 1 ∨ k = 2 ∨ k = 3 ∨ k = 4 := by omega
  rcases hk with rfl | rfl | rfl | rfl | rfl
  all_goals go_enter Tryd.func54, Tryd.ntmps54
  all_goals go_wp2
  all_goals go_ret
  all_goals exact ⟨rfl, (by repeat (first | with_reducible exact New.refl _ | with_reducible assumption | refine New.drewN ?_ _ | refine New.drew ?_ | refine New.alloc ?_ _ | refine New.setCell ?_ (by first | omega | (simp; omega) | (simp; done)) _ | (refine New.trans ?_ (by assumption))))⟩

theorem formatInt_any (w : World) (k : Int) (h0 : 0 ≤ k) (h5 : k < 5) :
    Calls Tryd.prog 48 #[.int .i64 k, .int .i64 10] w fun e w' => e = .returned (.string (endT k 116)) ∧ New w w' := by
  go_enter Tryd.func48, Tryd.ntmps48
  go_wp2_with fail
  refine (small_any _ k h0 h5).mono ?_
  rintro e w1 ⟨rfl, n1⟩
  go_wp2
  go_ret
  exact ⟨rfl, (by repeat (first | with_reducible exact New.refl _ | with_reducible assumption | refine New.drewN ?_ _ | refine New.drew ?_ | refine New.alloc ?_ _ | refine New.setCell ?_ (by first | omega | (simp; omega) | (simp; done)) _ | (refine New.trans ?_ (by assumption))))⟩

theorem itoaIn_any (w : World) (k : Int) (h0 : 0 ≤ k) (h5 : k < 5) :
    Calls Tryd.prog 37 #[.int .i64 k] w fun e w' => e = .returned (.string (endT k 116)) ∧ New w w' := by
  go_enter Tryd.func37, Tryd.ntmps37
  go_wp2_with fail
  refine (formatInt_any _ k h0 h5).mono ?_
  rintro e w1 ⟨rfl, n1⟩
  go_wp2
  go_ret
  exact ⟨rfl, (by repeat (first | with_reducible exact New.refl _ | with_reducible assumption | refine New.drewN ?_ _ | refine New.drew ?_ | refine New.alloc ?_ _ | refine New.setCell ?_ (by first | omega | (simp; omega) | (simp; done)) _ | (refine New.trans ?_ (by assumption))))⟩

theorem itoa_any (w : World) (k : Int) (h0 : 0 ≤ k) (h5 : k < 5) :
    Calls Tryd.prog 30 #[.int .i64 k] w fun e w' => e = .returned (.string (endT k 116)) ∧ New w w' := by
  go_enter Tryd.func30, Tryd.ntmps30
  go_wp2_with fail
  refine (itoaIn_any _ k h0 h5).mono ?_
  rintro e w1 ⟨rfl, n1⟩
  go_wp2
  go_ret
  exact ⟨rfl, (by repeat (first | with_reducible exact New.refl _ | with_reducible assumption | refine New.drewN ?_ _ | refine New.drew ?_ | refine New.alloc ?_ _ | refine New.setCell ?_ (by first | omega | (simp; omega) | (simp; done)) _ | (refine New.trans ?_ (by assumption))))⟩

set_option maxRecDepth 100000 in
theorem digit_text (w : World) (z : Int) (c : UInt8) (hc : strOfNums [z] = ⟨#[c]⟩) :
    (convert 53 9 (.slice (some ⟨w.heap.size, 0, none⟩) 1 1)).run Tryd.prog (w.alloc (.cells #[.int .u8 z] 5)) = .ok (.string ⟨#[c]⟩) (w.alloc (.cells #[.int .u8 z] 5)) := by
  rw [run_convert_bytes_arg (w.alloc (.cells #[.int .u8 z] 5)) 53 5 Tryd.underlying53 Tryd.underlying5 w.heap.size 0 1 1 [z] rfl (fun i hi => by
    obtain rfl : i = 0 := by omega
    simp [go_sem]) 9 Tryd.underlying9, hc]

set_option maxRecDepth 100000 in
theorem l1Num_any (w : World) (k : Int) (h0 : 0 ≤ k) (h5 : k < 5) :
    Calls Tryd.prog 24 #[.int .i64 k] w fun e w' => e = .returned (.string (endT k 116)) ∧ New w w' := by
  have hk : k = 0 ∨ k = 1 ∨ k = 2 ∨ k = 3 ∨ k = 4 := by omega
  rcases hk with rfl | rfl | rfl | rfl | rfl
  · go_enter Tryd.func24, Tryd.ntmps24
    go_wp2
    rw [digit_text w 48 48 rfl]
    go_wp2
    go_ret
    exact ⟨rfl, (by repeat (first | with_reducible exact New.refl _ | with_reducible assumption | refine New.drewN ?_ _ | refine New.drew ?_ | refine New.alloc ?_ _ | refine New.setCell ?_ (by first | omega | (simp; omega) | (simp; done)) _ | (refine New.trans ?_ (by assumption))))⟩
  · go_enter Tryd.func24, Tryd.ntmps24
    go_wp2
    rw [digit_text w 49 49 rfl]
    go_wp2
    go_ret
    exact ⟨rfl, (by repeat (first | with_reducible exact New.refl _ | with_reducible assumption | refine New.drewN ?_ _ | refine New.drew ?_ | refine New.alloc ?_ _ | refine New.setCell ?_ (by first | omega | (simp; omega) | (simp; done)) _ | (refine New.trans ?_ (by assumption))))⟩
  · go_enter Tryd.func24, Tryd.ntmps24
    go_wp2
    rw [digit_text w 50 50 rfl]
    go_wp2
    go_ret
    exact ⟨rfl, (by repeat (first | with_reducible exact New.refl _ | with_reducible assumption | refine New.drewN ?_ _ | refine New.drew ?_ | refine New.alloc ?_ _ | refine New.setCell ?_ (by first | omega | (simp; omega) | (simp; done)) _ | (refine New.trans ?_ (by assumption))))⟩
  · go_enter Tryd.func24, Tryd.ntmps24
    go_wp2
    rw [digit_text w 51 51 rfl]
    go_wp2
    go_ret
    exact ⟨rfl, (by repeat (first | with_reducible exact New.refl _ | with_reducible assumption | refine New.drewN ?_ _ | refine New.drew ?_ | refine New.alloc ?_ _ | refine New.setCell ?_ (by first | omega | (simp; omega) | (simp; done)) _ | (refine New.trans ?_ (by assumption))))⟩
  · go_enter Tryd.func24, Tryd.ntmps24
    go_wp2
    rw [digit_text w 52 52 rfl]
    go_wp2
    go_ret
    exact ⟨rfl, (by repeat (first | with_reducible exact New.refl _ | with_reducible assumption | refine New.drewN ?_ _ | refine New.drew ?_ | refine New.alloc ?_ _ | refine New.setCell ?_ (by first | omega | (simp; omega) | (simp; done)) _ | (refine New.trans ?_ (by assumption))))⟩
end Go.Proofs.YtknjobpdbbjeoaaDoor
