/- The program's functions of chapter 1, up to one move made. -/
import Derived.Test.YtfkhpgbidgogdaaDoorImpl2
import Derived.Test.YtfkhpgbidgogdaaDoorSpec3
namespace Go.Proofs.YtfkhpgbidgogdaaDoor
open Go.RowKit

theorem isMoveAmong_any (w : World) (n : Nat) (f t : Int) (_hn : n ≤ 5) :
    Calls Tryd.prog 11 #[.int .i64 n, .agg #[.int .i64 f, .int .i64 t]] w fun e w' => e = .returned (.bool (moveB n f t)) ∧ New w w' := by
  by_cases h1 : -1 ≤ f
  · by_cases h2 : f < n
    · by_cases h3 : -1 ≤ t
      · by_cases h4 : t < n
        · by_cases h5 : f = t
          · have hb := Lib.hid (moveB_false.2 (show ¬ MoveOk n f t from fun h => h.2.2 h5))
            subst h5
            go_enter Tryd.func11, Tryd.ntmps11
            go_wp2
            go_ret
            exact ⟨ret_bool (by rw [hb.out]; try simp; try omega), (by repeat (first | with_reducible exact New.refl _ | with_reducible assumption | refine New.drewN ?_ _ | refine New.drew ?_ | refine New.alloc ?_ _ | refine New.setCell ?_ (by first | omega | (simp; omega) | (simp; done)) _ | (refine New.trans ?_ (by assumption))))⟩
          · have hb := Lib.hid (moveB_iff.2 (show MoveOk n f t from ⟨⟨h1, h2⟩, ⟨h3, h4⟩, h5⟩))
            have h5' : (f != t) = true := by simpa using h5
            clear h5
            go_enter Tryd.func11, Tryd.ntmps11
            go_wp2
            go_ret
            exact ⟨ret_bool (by rw [hb.out]; try simp; try omega), (by repeat (first | with_reducible exact New.refl _ | with_reducible assumption | refine New.drewN ?_ _ | refine New.drew ?_ | refine New.alloc ?_ _ | refine New.setCell ?_ (by first | omega | (simp; omega) | (simp; done)) _ | (refine New.trans ?_ (by assumption))))⟩
        · have hb := Lib.hid (moveB_false.2 (show ¬ MoveOk n f t from fun h => h4 h.2.1.2))
          have h' : decide (t < n) = false := by simpa using h4
          go_enter Tryd.func11, Tryd.ntmps11
          go_wp2
          go_ret
          exact ⟨ret_bool (by rw [hb.out]; try simp; try omega), (by repeat (first | with_reducible exact New.refl _ | with_reducible assumption | refine New.drewN ?_ _ | refine New.drew ?_ | refine New.alloc ?_ _ | refine New.setCell ?_ (by first | omega | (simp; omega) | (simp; done)) _ | (refine New.trans ?_ (by assumption))))⟩
      · have hb := Lib.hid (moveB_false.2 (show ¬ MoveOk n f t from fun h => h3 h.2.1.1))
        have h' : decide (-1 ≤ t) = false := by simpa using h3
        go_enter Tryd.func11, Tryd.ntmps11
        go_wp2
        go_ret
        exact ⟨ret_bool (by rw [hb.out]; try simp; try omega), (by repeat (first | with_reducible exact New.refl _ | with_reducible assumption | refine New.drewN ?_ _ | refine New.drew ?_ | refine New.alloc ?_ _ | refine New.setCell ?_ (by first | omega | (simp; omega) | (simp; done)) _ | (refine New.trans ?_ (by assumption))))⟩
    · have hb := Lib.hid (moveB_false.2 (show ¬ MoveOk n f t from fun h => h2 h.1.2))
      have h' : decide (f < n) = false := by simpa using h2
      go_enter Tryd.func11, Tryd.ntmps11
      go_wp2
      go_ret
      exact ⟨ret_bool (by rw [hb.out]; try simp; try omega), (by repeat (first | with_reducible exact New.refl _ | with_reducible assumption | refine New.drewN ?_ _ | refine New.drew ?_ | refine New.alloc ?_ _ | refine New.setCell ?_ (by first | omega | (simp; omega) | (simp; done)) _ | (refine New.trans ?_ (by assumption))))⟩
  · have hb := Lib.hid (moveB_false.2 (show ¬ MoveOk n f t from fun h => h1 h.1.1))
    have h' : decide (-1 ≤ f) = false := by simpa using h1
    go_enter Tryd.func11, Tryd.ntmps11
    go_wp2
    go_ret
    exact ⟨ret_bool (by rw [hb.out]; try simp; try omega), (by repeat (first | with_reducible exact New.refl _ | with_reducible assumption | refine New.drewN ?_ _ | refine New.drew ?_ | refine New.alloc ?_ _ | refine New.setCell ?_ (by first | omega | (simp; omega) | (simp; done)) _ | (refine New.trans ?_ (by assumption))))⟩
end Go.Proofs.YtfkhpgbidgogdaaDoor
