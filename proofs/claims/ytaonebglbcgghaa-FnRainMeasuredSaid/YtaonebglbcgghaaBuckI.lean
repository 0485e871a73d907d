/- The program's functions on buckets. -/
import Derived.Test.YtaonebglbcgghaaBuck
import Derived.WalkMore
import Derived.ScopeJumps
import Derived.Test.YtaonebglbcgghaaRows2b
import Derived.Laws.CopyOwn
namespace Go.Proofs.Ytaonebglbcgghaa
open Go.RowKit

theorem areWithin_any (w : World) (aa : Option Addr) (n ca : Nat) (l : List Int) (lo hi : Int) (ha : Ints w aa n ca l) :
    Calls Try.prog 37 #[.slice aa n ca, .int .i64 lo, .int .i64 hi] w fun e w' => e = .returned (.bool (allB lo hi l)) ∧ w = w' := by
  have HA := Lib.hid ha; clear ha
  have hm := HA.out.2.2.1
  go_enter Try.func37, Try.ntmps37
  go_wp2
  go_loop [11] (fun i => ∃ k : Nat, k ≤ n ∧ i = .int .i64 k ∧ ∀ j, j < k → inB lo hi (l[j]?.getD 0) = true) (fun i => n - (intOf i).toNat)
  case atStart => exact ⟨0, Nat.zero_le _, rfl, fun j hj => absurd hj (by omega)⟩
  case round =>
    obtain ⟨k, hk, rfl, hpre⟩ := hrel
    have HP := Lib.hid hpre; clear hpre
    by_cases hlt : k < n
    · obtain ⟨b, o, rfl, hc, _⟩ := HA.out.at hlt
      obtain ⟨u, hu⟩ : ∃ u, u = l[k]?.getD 0 := ⟨_, rfl⟩
      rw [← hu] at hc
      have HU := Lib.hid hu; clear hu
      by_cases hb : inB lo hi u = true
      · obtain ⟨g1, g2⟩ := inB_iff.1 hb
        go_wp2
        go_round
        case rel =>
          refine ⟨k + 1, by omega, by go_num, fun j hj => ?_⟩
          by_cases e : j = k
          · subst e; rw [← HU.out]; exact hb
          · exact HP.out j (by omega)
        case measure => simp [intOf]; omega
      · have hbf : inB lo hi u = false := by simpa using hb
        by_cases g1 : u < lo
        · go_wp2
          go_ret
          refine ⟨ret_bool ?_, rfl⟩
          symm
          rw [← Bool.not_eq_true, allB_iff]
          intro h
          have := h k (by have := HA.out.len; omega)
          rw [← HU.out] at this
          omega
        · have g2 : hi < u := by rw [inB_false] at hbf; omega
          go_wp2
          go_ret
          refine ⟨ret_bool ?_, rfl⟩
          symm
          rw [← Bool.not_eq_true, allB_iff]
          intro h
          have := h k (by have := HA.out.len; omega)
          rw [← HU.out] at this
          omega
    · go_wp2
      go_ret
      refine ⟨ret_bool ?_, rfl⟩
      symm
      rw [allB_iff]
      intro j hj
      exact inB_iff.1 (HP.out j (by have := HA.out.len; omega))
end Go.Proofs.Ytaonebglbcgghaa
