/- Numbers within bounds: the model's, the program's. -/
import Derived.Test.YtmhcnomkkjgidaaDoorAll
namespace Go.Proofs.YtmhcnomkkjgidaaDoor
open Go.RowKit

theorem l1In_any (n lo hi : Int) (w : World) :
    Calls Tryd.prog 65 #[.int .i64 n, .int .i64 lo, .int .i64 hi] w fun e w' => e = .returned (.bool (inB lo hi n)) ∧ w = w' := by
  by_cases h1 : lo ≤ n
  · go_enter Tryd.func65, Tryd.ntmps65
    go_wp2
    go_ret
    exact ⟨ret_bool (by simp [inB, h1]), rfl⟩
  · have h2 : decide (lo ≤ n) = false := by simpa using h1
    go_enter Tryd.func65, Tryd.ntmps65
    go_wp2
    go_ret
    exact ⟨ret_bool (by unfold inB; rw [h2]; rfl), rfl⟩

theorem l1All_any (w : World) (aa : Option Addr) (n ca : Nat) (l : List Int) (lo hi : Int) (ha : Ints w aa n ca l) :
    Calls Tryd.prog 77 #[.slice aa n ca, .int .i64 lo, .int .i64 hi] w fun e w' => e = .returned (.bool (allB lo hi l)) ∧ w = w' := by
  have HA := Lib.hid ha; clear ha
  have hm := HA.out.2.2.1
  go_enter Tryd.func77, Tryd.ntmps77
  go_wp2
  go_loop [11] (fun i => ∃ k : Nat, k ≤ n ∧ i = .int .i64 k ∧ ∀ j, j < k → inB lo hi (l[j]?.getD 0) = true) (fun i => n - (intOf i).toNat)
  case atStart => exact ⟨0, Nat.zero_le _, rfl, fun j hj => absurd hj (by omega)⟩
  case round =>
    obtain ⟨k, hk, rfl, hpre⟩ := hrel
    have HP := Lib.hid hpre; clear hpre
    by_cases hlt : k < n
    · obtain ⟨b, o, rfl, hc, _⟩ := HA.out.at hlt
      go_wp2_with (go_at_call 65; refine (l1In_any _ _ _ _).mono ?_; rintro e w' ⟨rfl, rfl⟩)
      · have hb : inB lo hi (l[k]?.getD 0) = false := by rw [← Bool.not_eq_true']; assumption
        go_ret
        refine ⟨ret_bool ?_, rfl⟩
        symm
        rw [← Bool.not_eq_true, allB_iff]
        intro h
        rw [inB_false] at hb
        exact hb (h k (by have := HA.out.len; omega))
      · have hb : inB lo hi (l[k]?.getD 0) = true := by rw [← Bool.not_eq_false']; assumption
        go_round
        case rel =>
          refine ⟨k + 1, by omega, by go_num, fun j hj => ?_⟩
          by_cases e : j = k
          · subst e; exact hb
          · exact HP.out j (by omega)
        case measure => simp [intOf]; omega
    · go_wp2
      go_ret
      refine ⟨ret_bool ?_, rfl⟩
      symm
      rw [allB_iff]
      intro j hj
      exact inB_iff.1 (HP.out j (by have := HA.out.len; omega))

theorem areWithin_any (w : World) (aa : Option Addr) (n ca : Nat) (l : List Int) (lo hi : Int) (ha : Ints w aa n ca l) :
    Calls Tryd.prog 79 #[.slice aa n ca, .int .i64 lo, .int .i64 hi] w fun e w' => e = .returned (.bool (allB lo hi l)) ∧ w = w' := by
  have HA := Lib.hid ha; clear ha
  have hm := HA.out.2.2.1
  go_enter Tryd.func79, Tryd.ntmps79
  go_wp2
  go_loop [11] (fun i => ∃ k : Nat, k ≤ n ∧ i = .int .i64 k ∧ ∀ j, j < k → inB lo hi (l[j]?.getD 0) = true) (fun i => n - (intOf i).toNat)
  case atStart => exact ⟨0, Nat.zero_le _, rfl, fun j hj => absurd hj (by omega)⟩
  case round =>
    obtain ⟨k, hk, rfl, hpre⟩ := hrel
    have HP := Lib.hid hpre; clear hpre
    by_cases hlt : k < n
    · obtain ⟨b, o, rfl, hc, _⟩ := HA.out.at hlt
      obtain ⟨u, hu⟩ : ∃ u, u = l[k]?.getD 0 := ⟨_, rfl⟩
      rw [← hu] at hc
      have HU := Lib.hid hu; clear hu
      by_cases hb : inB lo hi u = true
      · obtain ⟨g1, g2⟩ := inB_iff.1 hb
        go_wp2
        go_round
        case rel =>
          refine ⟨k + 1, by omega, by go_num, fun j hj => ?_⟩
          by_cases e : j = k
          · subst e; rw [← HU.out]; exact hb
          · exact HP.out j (by omega)
        case measure => simp [intOf]; omega
      · have hbf : inB lo hi u = false := by simpa using hb
        by_cases g1 : u < lo
        · go_wp2
          go_ret
          refine ⟨ret_bool ?_, rfl⟩
          symm
          rw [← Bool.not_eq_true, allB_iff]
          intro h
          have := h k (by have := HA.out.len; omega)
          rw [← HU.out] at this
          omega
        · have g2 : hi < u := by rw [inB_false] at hbf; omega
          go_wp2
          go_ret
          refine ⟨ret_bool ?_, rfl⟩
          symm
          rw [← Bool.not_eq_true, allB_iff]
          intro h
          have := h k (by have := HA.out.len; omega)
          rw [← HU.out] at this
          omega
    · go_wp2
      go_ret
      refine ⟨ret_bool ?_, rfl⟩
      symm
      rw [allB_iff]
      intro j hj
      exact inB_iff.1 (HP.out j (by have := HA.out.len; omega))

end Go.Proofs.YtmhcnomkkjgidaaDoor
