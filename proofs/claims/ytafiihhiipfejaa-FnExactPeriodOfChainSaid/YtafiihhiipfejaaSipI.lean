/- The program's functions on one siphon. -/
import Derived.Test.YtafiihhiipfejaaSip
namespace Go.Proofs.Ytafiihhiipfejaa
open Go.RowKit

theorem iIsSiphon_any (w : World) (a b c d : Int) :
    Calls Try.prog 56 #[sipV a b c d] w fun e w' => e = .returned (.bool (sipB a b c d)) ∧ New w w' := by
  by_cases h1 : 1 ≤ a
  · by_cases h2 : a ≤ 60
    · by_cases h3 : 0 ≤ b
      · by_cases h4 : b < c
        · by_cases h5 : c ≤ a
          · by_cases h6 : 1 ≤ d
            · by_cases h7 : d ≤ 60
              · go_enter Try.func56, Try.ntmps56
                go_wp2
                go_ret
                exact ⟨ret_bool (sipB_iff.2 ⟨⟨h1, h2⟩, ⟨h3, h4, h5⟩, h6, h7⟩).symm, (by repeat (first | with_reducible exact New.refl _ | with_reducible assumption | refine New.drewN ?_ _ | refine New.drew ?_ | refine New.alloc ?_ _ | refine New.setCell ?_ (by first | omega | (simp; omega) | (simp; done)) _ | (refine New.trans ?_ (by assumption))))⟩
              · have h7f : decide (d ≤ 60) = false := by simpa using h7
                go_enter Try.func56, Try.ntmps56
                go_wp2
                go_ret
                exact ⟨ret_bool (sipB_false.2 fun h => by unfold SipOk at h; omega).symm, (by repeat (first | with_reducible exact New.refl _ | with_reducible assumption | refine New.drewN ?_ _ | refine New.drew ?_ | refine New.alloc ?_ _ | refine New.setCell ?_ (by first | omega | (simp; omega) | (simp; done)) _ | (refine New.trans ?_ (by assumption))))⟩
            · have h6f : decide (1 ≤ d) = false := by simpa using h6
              go_enter Try.func56, Try.ntmps56
              go_wp2
              go_ret
              exact ⟨ret_bool (sipB_false.2 fun h => by unfold SipOk at h; omega).symm, (by repeat (first | with_reducible exact New.refl _ | with_reducible assumption | refine New.drewN ?_ _ | refine New.drew ?_ | refine New.alloc ?_ _ | refine New.setCell ?_ (by first | omega | (simp; omega) | (simp; done)) _ | (refine New.trans ?_ (by assumption))))⟩
          · have h5f : decide (c ≤ a) = false := by simpa using h5
            go_enter Try.func56, Try.ntmps56
            go_wp2
            go_ret
            exact ⟨ret_bool (sipB_false.2 fun h => by unfold SipOk at h; omega).symm, (by repeat (first | with_reducible exact New.refl _ | with_reducible assumption | refine New.drewN ?_ _ | refine New.drew ?_ | refine New.alloc ?_ _ | refine New.setCell ?_ (by first | omega | (simp; omega) | (simp; done)) _ | (refine New.trans ?_ (by assumption))))⟩
        · have h4f : decide (b < c) = false := by simpa using h4
          go_enter Try.func56, Try.ntmps56
          go_wp2
          go_ret
          exact ⟨ret_bool (sipB_false.2 fun h => by unfold SipOk at h; omega).symm, (by repeat (first | with_reducible exact New.refl _ | with_reducible assumption | refine New.drewN ?_ _ | refine New.drew ?_ | refine New.alloc ?_ _ | refine New.setCell ?_ (by first | omega | (simp; omega) | (simp; done)) _ | (refine New.trans ?_ (by assumption))))⟩
      · have h3f : decide (0 ≤ b) = false := by simpa using h3
        go_enter Try.func56, Try.ntmps56
        go_wp2
        go_ret
        exact ⟨ret_bool (sipB_false.2 fun h => by unfold SipOk at h; omega).symm, (by repeat (first | with_reducible exact New.refl _ | with_reducible assumption | refine New.drewN ?_ _ | refine New.drew ?_ | refine New.alloc ?_ _ | refine New.setCell ?_ (by first | omega | (simp; omega) | (simp; done)) _ | (refine New.trans ?_ (by assumption))))⟩
    · have h2f : decide (a ≤ 60) = false := by simpa using h2
      go_enter Try.func56, Try.ntmps56
      go_wp2
      go_ret
      exact ⟨ret_bool (sipB_false.2 fun h => by unfold SipOk at h; omega).symm, (by repeat (first | with_reducible exact New.refl _ | with_reducible assumption | refine New.drewN ?_ _ | refine New.drew ?_ | refine New.alloc ?_ _ | refine New.setCell ?_ (by first | omega | (simp; omega) | (simp; done)) _ | (refine New.trans ?_ (by assumption))))⟩
  · have h1f : decide (1 ≤ a) = false := by simpa using h1
    go_enter Try.func56, Try.ntmps56
    go_wp2
    go_ret
    exact ⟨ret_bool (sipB_false.2 fun h => by unfold SipOk at h; omega).symm, (by repeat (first | with_reducible exact New.refl _ | with_reducible assumption | refine New.drewN ?_ _ | refine New.drew ?_ | refine New.alloc ?_ _ | refine New.setCell ?_ (by first | omega | (simp; omega) | (simp; done)) _ | (refine New.trans ?_ (by assumption))))⟩

theorem isLevelIn_any (w : World) (a b c d h : Int) (r : Bool) :
    Calls Try.prog 57 #[sipV a b c d, levV h r] w fun e w' => e = .returned (.bool (inB 0 a h)) ∧ New w w' := by
  by_cases h1 : 0 ≤ h
  · go_enter Try.func57, Try.ntmps57
    go_wp2
    go_ret
    exact ⟨ret_bool (by simp [inB, h1]), (by repeat (first | with_reducible exact New.refl _ | with_reducible assumption | refine New.drewN ?_ _ | refine New.drew ?_ | refine New.alloc ?_ _ | refine New.setCell ?_ (by first | omega | (simp; omega) | (simp; done)) _ | (refine New.trans ?_ (by assumption))))⟩
  · have h1f : decide (0 ≤ h) = false := by simpa using h1
    go_enter Try.func57, Try.ntmps57
    go_wp2
    go_ret
    exact ⟨ret_bool (by unfold inB; rw [h1f]; rfl), (by repeat (first | with_reducible exact New.refl _ | with_reducible assumption | refine New.drewN ?_ _ | refine New.drew ?_ | refine New.alloc ?_ _ | refine New.setCell ?_ (by first | omega | (simp; omega) | (simp; done)) _ | (refine New.trans ?_ (by assumption))))⟩

theorem isInflow_any (w : World) (x : Int) :
    Calls Try.prog 50 #[.int .i64 x] w fun e w' => e = .returned (.bool (inB 0 60 x)) ∧ w = w' := by
  by_cases h1 : 0 ≤ x
  · go_enter Try.func50, Try.ntmps50
    go_wp2
    go_ret
    exact ⟨ret_bool (by simp [inB, h1]), rfl⟩
  · have h1f : decide (0 ≤ x) = false := by simpa using h1
    go_enter Try.func50, Try.ntmps50
    go_wp2
    go_ret
    exact ⟨ret_bool (by unfold inB; rw [h1f]; rfl), rfl⟩

theorem siphonTick_any (w : World) (a b c d u x : Int) (r : Bool) (hs : SipOk a b c d) (h0 : 0 ≤ u) (h1 : u ≤ a) (x0 : 0 ≤ x) (x1 : x ≤ 60) :
    Calls Try.prog 37 #[sipV a b c d, levV u r, .int .i64 x] w fun e w' => e = .returned (.tuple #[levV (tkH a b c d u x r) (tkR a b c d u x r), .int .i64 (tkO a b c d u x r), .int .i64 (tkS a u x)]) ∧ New w w' := by
  have hs' := hs
  unfold SipOk at hs'
  obtain ⟨⟨a0, a1⟩, ⟨b0, c0, c1⟩, d0, d1⟩ := hs'
  clear hs
  go_enter Try.func37, Try.ntmps37
  go_wp2
  all_goals
    refine bodyPost_ret (v := .tuple #[levV (tkH a b c d u x r) (tkR a b c d u x r), .int .i64 (tkO a b c d u x r), .int .i64 (tkS a u x)]) ?_ rfl ⟨rfl, (by repeat (first | with_reducible exact New.refl _ | with_reducible assumption | refine New.drewN ?_ _ | refine New.drew ?_ | refine New.alloc ?_ _ | refine New.setCell ?_ (by first | omega | (simp; omega) | (simp; done)) _ | (refine New.trans ?_ (by assumption))))⟩
  all_goals simp [results, Try.results37, go_sem]
  all_goals first
    | exact tk_run a b c d u x r (.inr (by omega)) (by omega) (by omega) (by omega) (by omega)
    | exact tk_run a b c d u x r (.inl (by simp_all)) (by omega) (by omega) (by omega) (by omega)
    | exact tk_idle a b c d u x r (by simp_all) (by omega) (by omega) (by omega)
end Go.Proofs.Ytafiihhiipfejaa
