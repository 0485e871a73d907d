/- eSame and eSum of the laws. -/
import Derived.Test.YtaonebglbcgghaaDrt
import Derived.Test.YtaonebglbcgghaaGaugeI
import Derived.Test.YtaonebglbcgghaaRmm
namespace Go.Proofs.Ytaonebglbcgghaa
open Go.RowKit Go.IntWalk

theorem eSame_same (w : World) (aa ab : Option Addr) (n m ca cb : Nat) (l : List Int) (ha : Ints w aa n ca l) (hb : Ints w ab m cb l) :
    Calls Try.prog 12 #[.slice aa n ca, .slice ab m cb] w fun e w' => e = .returned (.bool true) ∧ New w w' := by
  have hma := ha.2.2.1
  have hnm : m = n := by rw [ha.1, hb.1]
  subst hnm
  have HA := Lib.hid ha; clear ha
  have HB := Lib.hid hb; clear hb
  go_enter Try.func12, Try.ntmps12
  go_wp2
  go_loopw [13] (fun i wr => ∃ k : Nat, k ≤ m ∧ i = .int .i64 k ∧ ∃ q, wr = w.drewN q) (fun i _ => m - (intOf i).toNat)
  case atStart => exact ⟨0, Nat.zero_le _, rfl, 0, rfl⟩
  case round =>
    obtain ⟨k, hk, rfl, q, rfl⟩ := hrel
    by_cases hlt : k < m
    · obtain ⟨ba, oa, rfl, ga, _⟩ := HA.out.at hlt
      obtain ⟨bb, ob, rfl, gb, _⟩ := HB.out.at hlt
      obtain ⟨y, hy⟩ : ∃ y, y = l[k]?.getD 0 := ⟨_, rfl⟩
      rw [← hy] at ga gb
      clear hy
      have gk : IntKind.i64.wrap ((k : Int) + 1) = (k : Int) + 1 := i64_in _ (by omega)
      go_wp2
      go_quiet (fail)
      go_wp2
      go_roundw
      case rel => exact ⟨k + 1, by omega, by go_num, q + nq, by simp⟩
      case measure => simp [intOf]; omega
    · obtain rfl : k = m := by omega
      go_wp2
      go_ret
      exact ⟨rfl, (New.refl _).drewN _⟩

theorem eSum_any (w : World) (aa : Option Addr) (n ca : Nat) (l : List Int) (ha : Ints w aa n ca l) (hn : n ≤ 1000) (hl : ∀ j, j < n → 0 ≤ l[j]?.getD 0 ∧ l[j]?.getD 0 ≤ 10000) :
    Calls Try.prog 13 #[.slice aa n ca] w fun e w' => e = .returned (.int .i64 (sumM l)) ∧ w = w' := by
  have en := ha.1
  have HA := Lib.hid ha; clear ha
  have HS := Lib.hid (show sumM l = sumK l n by unfold sumM; rw [en]); clear en
  have bd : ∀ k, k ≤ n → 0 ≤ sumK l k ∧ sumK l k ≤ 10000 * k := by
    intro k hk
    induction k with
    | zero => exact ⟨by simp [sumK], by simp [sumK]⟩
    | succ k ih =>
      have q := ih (by omega)
      have q1 := hl k (by omega)
      unfold sumK
      omega
  have BD := Lib.hid bd; clear bd
  have HLB := Lib.hid hl; clear hl
  go_enter Try.func13, Try.ntmps13
  go_wp2
  go_loopw [3, 8] (fun s i wr => ∃ k : Nat, k ≤ n ∧ i = .int .i64 k ∧ s = .int .i64 (sumK l k) ∧ w = wr) (fun _ i _ => n - (intOf i).toNat)
  case atStart => exact ⟨0, Nat.zero_le _, rfl, rfl, rfl⟩
  case round =>
    obtain ⟨k, hk, rfl, rfl, rfl⟩ := hrel
    by_cases hlt : k < n
    · obtain ⟨ba, oa, rfl, ga, _⟩ := HA.out.at hlt
      have b0 := BD.out k hk
      have b1 := HLB.out k hlt
      have SS := Lib.hid (show sumK l (k + 1) = sumK l k + l[k]?.getD 0 from rfl)
      obtain ⟨y, hy⟩ : ∃ y, y = l[k]?.getD 0 := ⟨_, rfl⟩
      obtain ⟨s, hs⟩ : ∃ y, y = sumK l k := ⟨_, rfl⟩
      rw [← hy] at ga SS b1
      rw [← hs] at SS b0
      rw [← hs]
      clear hy hs
      have gs : IntKind.i64.wrap (s + y) = s + y := i64_in _ (by omega)
      have gk : IntKind.i64.wrap ((k : Int) + 1) = (k : Int) + 1 := i64_in _ (by omega)
      go_wp2
      go_roundw
      case rel => exact ⟨k + 1, by omega, by go_num, by rw [SS.out], by trivial⟩
      case measure => simp [intOf]; omega
    · obtain rfl : k = n := by omega
      go_wp2
      go_ret
      exact ⟨by rw [HS.out]; rfl, by trivial⟩
end Go.Proofs.Ytaonebglbcgghaa
