/- eLevels and eSame of the laws: a row is the same as itself. -/
import Derived.Test.YtfhpmihjfojbnaaRowLevel
namespace Go.Proofs.Ytfhpmihjfojbnaa
open Go.RowKit Go.IntWalk

theorem eSame_same (w : World) (aa ab : Option Addr) (n m ca cb : Nat) (l : List Int) (ha : Ints w aa n ca l) (hb : Ints w ab m cb l) :
    Calls Try.prog 13 #[.slice aa n ca, .slice ab m cb] w fun e w' => e = .returned (.bool true) ∧ New w w' := by
  have hma := ha.2.2.1
  have hnm : m = n := by rw [ha.1, hb.1]
  subst hnm
  have HA := Lib.hid ha; clear ha
  have HB := Lib.hid hb; clear hb
  go_enter Try.func13, Try.ntmps13
  go_wp2
  go_loopw [13] (fun i wr => ∃ k : Nat, k ≤ m ∧ i = .int .i64 k ∧ ∃ q, wr = w.drewN q) (fun i _ => m - (intOf i).toNat)
  case atStart => exact ⟨0, Nat.zero_le _, rfl, 0, rfl⟩
  case round =>
    obtain ⟨k, hk, rfl, q, rfl⟩ := hrel
    by_cases hlt : k < m
    · obtain ⟨ba, oa, rfl, ga, _⟩ := HA.out.at hlt
      obtain ⟨bb, ob, rfl, gb, _⟩ := HB.out.at hlt
      obtain ⟨y, hy⟩ : ∃ y, y = l[k]?.getD 0 := ⟨_, rfl⟩
      rw [← hy] at ga gb
      clear hy
      have gk : IntKind.i64.wrap ((k : Int) + 1) = (k : Int) + 1 := i64_in _ (by omega)
      go_wp2
      go_quiet (fail)
      go_wp2
      go_roundw
      case rel => exact ⟨k + 1, by omega, by go_num, q + nq, by simp⟩
      case measure => simp [intOf]; omega
    · obtain rfl : k = m := by omega
      go_wp2
      go_ret
      exact ⟨rfl, (New.refl _).drewN _⟩

theorem eLevels_same (w : World) (aa ab : Option Addr) (n m ca cb : Nat) (l : List (Int × Bool)) (ha : Levels w aa n ca l) (hb : Levels w ab m cb l) :
    Calls Try.prog 14 #[.slice aa n ca, .slice ab m cb] w fun e w' => e = .returned (.bool true) ∧ New w w' := by
  have hma := ha.2.2.1
  have hnm : m = n := by rw [ha.1, hb.1]
  subst hnm
  have HA := Lib.hid ha; clear ha
  have HB := Lib.hid hb; clear hb
  go_enter Try.func14, Try.ntmps14
  go_wp2
  go_loopw [13] (fun i wr => ∃ k : Nat, k ≤ m ∧ i = .int .i64 k ∧ ∃ q, wr = w.drewN q) (fun i _ => m - (intOf i).toNat)
  case atStart => exact ⟨0, Nat.zero_le _, rfl, 0, rfl⟩
  case round =>
    obtain ⟨k, hk, rfl, q, rfl⟩ := hrel
    by_cases hlt : k < m
    · obtain ⟨ba, oa, rfl, ga0, ga1⟩ := HA.out.2.2.2.1 k hlt
      obtain ⟨bb, ob, rfl, gb0, gb1⟩ := HB.out.2.2.2.1 k hlt
      obtain ⟨y, hy⟩ : ∃ y, y = (l[k]?.getD (0, false)).1 := ⟨_, rfl⟩
      obtain ⟨z, hz⟩ : ∃ y, y = (l[k]?.getD (0, false)).2 := ⟨_, rfl⟩
      rw [← hy] at ga0 gb0
      rw [← hz] at ga1 gb1
      clear hy hz
      have gk : IntKind.i64.wrap ((k : Int) + 1) = (k : Int) + 1 := i64_in _ (by omega)
      go_wp2
      go_quiet (fail)
      go_wp2
      go_roundw
      case rel => exact ⟨k + 1, by omega, by go_num, q + nq, by simp⟩
      case measure => simp [intOf]; omega
    · obtain rfl : k = m := by omega
      go_wp2
      go_ret
      exact ⟨rfl, (New.refl _).drewN _⟩
end Go.Proofs.Ytfhpmihjfojbnaa
