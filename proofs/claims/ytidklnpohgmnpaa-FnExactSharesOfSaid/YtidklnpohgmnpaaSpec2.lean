/- The model's functions of chapter 1: amounts, moves, copies. -/
import Derived.Test.YtidklnpohgmnpaaSpec1
import Derived.Laws.AppendOwnNone
namespace Go.Proofs.Ytidklnpohgmnpaa
open Go.RowKit

theorem sumOf_le (l : List Int) (h : ∀ j, j < l.length → 0 ≤ l[j]?.getD 0 ∧ l[j]?.getD 0 ≤ 60) (k : Nat) (hk : k ≤ l.length) : 0 ≤ sumOf (l.take k) ∧ sumOf (l.take k) ≤ 60 * k := by
  induction k with
  | zero => simp [sumOf]
  | succ k ih =>
    have e : l.take (k + 1) = l.take k ++ [l[k]?.getD 0] := by
      rw [List.take_add_one]
      simp [List.getElem?_eq_getElem (show k < l.length by omega)]
    have := ih (by omega)
    have := h k (by omega)
    rw [e]
    simp only [sumOf, List.foldl_append, List.foldl_cons, List.foldl_nil] at *
    omega
theorem sumOf_snoc (l : List Int) (k : Nat) (hk : k < l.length) : sumOf (l.take (k + 1)) = sumOf (l.take k) + l[k]?.getD 0 := by
  have e : l.take (k + 1) = l.take k ++ [l[k]?.getD 0] := by
    rw [List.take_add_one]
    simp [List.getElem?_eq_getElem hk]
  rw [e]
  simp [sumOf]

theorem veSum_any (w : World) (ab : Option Addr) (m cb : Nat) (H : List Int) (h2 : Ints w ab m cb H) (hm : m ≤ 1000) (hv : ∀ j, j < H.length → 0 ≤ H[j]?.getD 0 ∧ H[j]?.getD 0 ≤ 60) :
    Calls Try.prog 60 #[.slice ab m cb] w fun e w' => e = .returned (.int .i64 (sumOf H)) ∧ w = w' := by
  have HB := Lib.hid h2; clear h2
  have HV := Lib.hid hv; clear hv
  go_enter Try.func60, Try.ntmps60
  go_wp2
  go_loop [3, 8] (fun s i => ∃ k : Nat, k ≤ m ∧ i = .int .i64 k ∧ s = .int .i64 (sumOf (H.take k))) (fun _ i => m - (intOf i).toNat)
  case atStart => exact ⟨0, Nat.zero_le _, rfl, rfl⟩
  case round =>
    obtain ⟨k, hk, rfl, rfl⟩ := hrel
    have hlen := HB.out.len
    have hs := sumOf_le H HV.out k (by omega)
    obtain ⟨s0, s1⟩ := hs
    by_cases hlt : k < m
    · obtain ⟨b, o, rfl, hc, _⟩ := HB.out.at hlt
      obtain ⟨v0, v1⟩ := HV.out k (by omega)
      have HS := Lib.hid (sumOf_snoc H k (by omega))
      have HLEN := Lib.hid hlen; clear hlen
      go_wp2
      go_round
      case rel => exact ⟨k + 1, by omega, by go_num, by rw [HS.out]⟩
      case measure => simp [intOf]; omega
    · have e : H.take k = H := List.take_of_length_le (by omega)
      rw [e]
      go_wp2
      go_ret
      exact ⟨rfl, rfl⟩
end Go.Proofs.Ytidklnpohgmnpaa
