/- eSum of the laws, over numbers that are not great. -/
import Derived.Test.YtfhpmihjfojbnaaHelp
namespace Go.Proofs.Ytfhpmihjfojbnaa
open Go.RowKit Go.IntWalk

def sumK (xs : List Int) : Nat → Int
  | 0 => 0
  | k + 1 => sumK xs k + xs[k]?.getD 0
def sumM (xs : List Int) : Int := sumK xs xs.length
theorem sumK_succ (xs : List Int) (k : Nat) : sumK xs (k + 1) = sumK xs k + xs[k]?.getD 0 := rfl

theorem sumK_in {l : List Int} {n : Nat} {B : Int} (hl : ∀ j, j < n → 0 ≤ l[j]?.getD 0 ∧ l[j]?.getD 0 ≤ B) (k : Nat) (hk : k ≤ n) : 0 ≤ sumK l k ∧ sumK l k ≤ B * k := by
  induction k with
  | zero => exact ⟨by simp [sumK], by simp [sumK]⟩
  | succ k ih =>
    have q := ih (by omega)
    have q1 := hl k (by omega)
    have e : B * ((k + 1 : Nat) : Int) = B * k + B := by push_cast; rw [Int.mul_add, Int.mul_one]
    rw [e]
    unfold sumK
    omega

theorem eSum_any (w : World) (aa : Option Addr) (n ca : Nat) (l : List Int) (ha : Ints w aa n ca l) (hn : n ≤ 1000000) (hl : ∀ j, j < n → 0 ≤ l[j]?.getD 0 ∧ l[j]?.getD 0 ≤ 1000000) :
    Calls Try.prog 15 #[.slice aa n ca] w fun e w' => e = .returned (.int .i64 (sumM l)) ∧ w = w' := by
  have en := ha.1
  have HA := Lib.hid ha; clear ha
  have HS := Lib.hid (show sumM l = sumK l n by unfold sumM; rw [en]); clear en
  have BD := Lib.hid (sumK_in hl)
  have HLB := Lib.hid hl; clear hl
  go_enter Try.func15, Try.ntmps15
  go_wp2
  go_loopw [3, 8] (fun s i wr => ∃ k : Nat, k ≤ n ∧ i = .int .i64 k ∧ s = .int .i64 (sumK l k) ∧ w = wr) (fun _ i _ => n - (intOf i).toNat)
  case atStart => exact ⟨0, Nat.zero_le _, rfl, rfl, rfl⟩
  case round =>
    obtain ⟨k, hk, rfl, rfl, rfl⟩ := hrel
    by_cases hlt : k < n
    · obtain ⟨ba, oa, rfl, ga, _⟩ := HA.out.at hlt
      have b0 := BD.out k hk
      have b1 := HLB.out k hlt
      have SS := Lib.hid (show sumK l (k + 1) = sumK l k + l[k]?.getD 0 from rfl)
      obtain ⟨y, hy⟩ : ∃ y, y = l[k]?.getD 0 := ⟨_, rfl⟩
      obtain ⟨s, hs⟩ : ∃ y, y = sumK l k := ⟨_, rfl⟩
      rw [← hy] at ga SS b1
      rw [← hs] at SS b0
      rw [← hs]
      clear hy hs
      have gs : IntKind.i64.wrap (s + y) = s + y := i64_in _ (by omega)
      have gk : IntKind.i64.wrap ((k : Int) + 1) = (k : Int) + 1 := i64_in _ (by omega)
      go_wp2
      go_roundw
      case rel => exact ⟨k + 1, by omega, by go_num, by rw [SS.out], by trivial⟩
      case measure => simp [intOf]; omega
    · obtain rfl : k = n := by omega
      go_wp2
      go_ret
      exact ⟨by rw [HS.out]; rfl, by trivial⟩
end Go.Proofs.Ytfhpmihjfojbnaa
