/- The common divisor of vessels: its model, and the two functions that reckon it. -/
import Derived.Test.YtknjobpdbbjeoaaDoorSpec3
import Derived.RegionTactic
namespace Go.Proofs.YtknjobpdbbjeoaaDoor
open Go.RowKit

/-- The common divisor of the first k vessels. -/
def cdK (S H : List Int) : Nat → Nat
  | 0 => 0
  | k + 1 => Nat.gcd (Nat.gcd (cdK S H k) (S[k]?.getD 0).toNat) (H[k]?.getD 0).toNat
def cdV (S H : List Int) : Nat := cdK S H S.length
theorem cdK_succ (S H : List Int) (k s h : Nat) (es : S[k]?.getD 0 = s) (eh : H[k]?.getD 0 = h) : cdK S H (k + 1) = Nat.gcd (Nat.gcd (cdK S H k) s) h := by
  show Nat.gcd (Nat.gcd (cdK S H k) (S[k]?.getD 0).toNat) (H[k]?.getD 0).toNat = _
  rw [es, eh]; rfl
theorem gcd3 {c s h : Nat} (h1 : 1 ≤ s) (h2 : s ≤ 60) : (1 ≤ Nat.gcd c s ∧ Nat.gcd c s ≤ 60) ∧ 1 ≤ Nat.gcd (Nat.gcd c s) h ∧ Nat.gcd (Nat.gcd c s) h ≤ 60 := by
  have a1 : 0 < Nat.gcd c s := Nat.gcd_pos_of_pos_right _ (by omega)
  have a2 : Nat.gcd c s ≤ s := Nat.gcd_le_right _ (by omega)
  have a3 : 0 < Nat.gcd (Nat.gcd c s) h := Nat.gcd_pos_of_pos_left _ a1
  have a4 : Nat.gcd (Nat.gcd c s) h ≤ Nat.gcd c s := Nat.gcd_le_left _ a1
  omega
theorem Good.nats {S H : List Int} (hg : Good S H) {k : Nat} (hk : k < S.length) : ∃ s h : Nat, S[k]?.getD 0 = s ∧ H[k]?.getD 0 = h ∧ 1 ≤ s ∧ s ≤ 60 ∧ h ≤ s := by
  have := hg.at hk
  exact ⟨(S[k]?.getD 0).toNat, (H[k]?.getD 0).toNat, by omega, by omega, by omega, by omega, by omega⟩
theorem cdK_bd {S H : List Int} (hg : Good S H) {k : Nat} (hk : k ≤ S.length) : cdK S H k ≤ 60 ∧ (0 < k → 1 ≤ cdK S H k) := by
  cases k with
  | zero => exact ⟨Nat.zero_le _, fun h => absurd h (by omega)⟩
  | succ k =>
    obtain ⟨s, h, es, eh, h1, h2, _⟩ := hg.nats (show k < S.length by omega)
    rw [cdK_succ S H k s h es eh]
    have := gcd3 (c := cdK S H k) (h := h) h1 h2
    exact ⟨this.2.2, fun _ => this.2.1⟩
theorem cdV_bd {S H : List Int} (hg : Good S H) : 1 ≤ cdV S H ∧ cdV S H ≤ 60 :=
  ⟨(cdK_bd hg (Nat.le_refl _)).2 hg.1.1, (cdK_bd hg (Nat.le_refl _)).1⟩
theorem gcd_step (a b : Nat) : Nat.gcd b (a % b) = Nat.gcd a b := by
  rw [Nat.gcd_comm a b, Nat.gcd_rec b a, Nat.gcd_comm]
end Go.Proofs.YtknjobpdbbjeoaaDoor
