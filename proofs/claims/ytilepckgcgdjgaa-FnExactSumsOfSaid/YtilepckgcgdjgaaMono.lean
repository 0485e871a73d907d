/- Those that are found later need no fewer moves. -/
import Derived.Test.YtilepckgcgdjgaaLayers
namespace Go.Proofs.Ytilepckgcgdjgaa
open Go.RowKit

structure Mono (L : List Node) (k : Nat) : Prop where
  up : ∀ i j, i ≤ j → j < L.length → farAt L i ≤ farAt L j
  near : k < L.length → ∀ j, j < L.length → farAt L j ≤ farAt L k + 1
theorem mono_seq {S H : List Int} (cl : Bool) (k : Nat) : Mono (seqN S H cl k) k := by
  induction k with
  | zero =>
    refine ⟨fun i j h1 h2 => ?_, fun _ j h2 => ?_⟩
    · obtain rfl : j = 0 := by simp [seqN] at h2; exact h2
      obtain rfl : i = 0 := by omega
      exact Nat.le_refl _
    · obtain rfl : j = 0 := by simp [seqN] at h2; exact h2
      omega
  | succ k ih =>
    by_cases hk : k < (seqN S H cl k).length
    · have e := seqN_succ hk
      have hp := goN_prefix S cl (seqN S H cl k) k
      have up : ∀ i j, i ≤ j → j < (goN S cl (seqN S H cl k) k).length → farAt (goN S cl (seqN S H cl k) k) i ≤ farAt (goN S cl (seqN S H cl k) k) j := fun i j h1 h2 => by
        by_cases hj : j < (seqN S H cl k).length
        · rw [farAt_prefix hp hj, farAt_prefix hp (by omega)]
          exact ih.up i j h1 hj
        · rw [goN_far hk j (by omega) h2]
          by_cases hi : i < (seqN S H cl k).length
          · rw [farAt_prefix hp hi]
            exact ih.near hk i hi
          · rw [goN_far hk i (by omega) (by omega)]
            exact Nat.le_refl _
      rw [e]
      refine ⟨up, fun hk1 j hj => ?_⟩
      have q := up k (k + 1) (by omega) hk1
      rw [farAt_prefix hp hk] at q
      by_cases h : j < (seqN S H cl k).length
      · have := ih.near hk j h
        rw [farAt_prefix hp h]
        omega
      · rw [goN_far hk j (by omega) hj]
        omega
    · have e : seqN S H cl (k + 1) = seqN S H cl k := seqN_stop (by omega) (by omega)
      rw [e]
      exact ⟨ih.up, fun h => absurd h (by omega)⟩
theorem far_last {S H : List Int} {cl : Bool} {most : Nat} {j : Nat} (h : j < (endN S H cl most).length) : farAt (endN S H cl most) j ≤ lastFar (endN S H cl most) := by
  have h' : j < (seqN S H cl (most + 1)).length := h
  exact (mono_seq cl (most + 1)).up j ((seqN S H cl (most + 1)).length - 1) (by omega) (by omega)
/-- The numbers when the first k have been counted. -/
def layK (L : List Node) (m k : Nat) : List Int := (List.range m).map fun (i : Nat) => (cntTo (farAt L) i k : Int)
theorem layK_length (L : List Node) (m k : Nat) : (layK L m k).length = m := by simp [layK]
theorem layK_get (L : List Node) (m k : Nat) {i : Nat} (hi : i < m) : (layK L m k)[i]?.getD 0 = (cntTo (farAt L) i k : Int) := by simp [layK, hi]
theorem layK_next (L : List Node) (m k : Nat) (h : farAt L k < m) : (layK L m k).set (farAt L k) ((cntTo (farAt L) (farAt L k) k : Int) + 1) = layK L m (k + 1) := by
  refine ext_getD (by rw [List.length_set, layK_length, layK_length]) fun i hi => ?_
  rw [List.length_set, layK_length] at hi
  rw [layK_get L m (k + 1) hi, List.getElem?_set, layK_length]
  by_cases e : farAt L k = i
  · subst e
    rw [if_pos rfl, if_pos h, Option.getD_some, cntTo, if_pos rfl]
    omega
  · rw [if_neg e, layK_get L m k hi, cntTo, if_neg e]
    rfl
theorem layK_all (L : List Node) : layK L (lastFar L + 1) L.length = layN L := rfl
theorem layK_zero (L : List Node) (m : Nat) : layK L m 0 = List.replicate m 0 := by
  refine ext_getD (by rw [layK_length, List.length_replicate]) fun i hi => ?_
  rw [layK_length] at hi
  rw [layK_get L m 0 hi, cntTo]
  simp [hi]
end Go.Proofs.Ytilepckgcgdjgaa
