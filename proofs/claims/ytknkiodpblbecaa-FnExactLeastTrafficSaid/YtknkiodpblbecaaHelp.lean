/- The laws' own helpers, function by function. -/
import Derived.Test.YtknkiodpblbecaaBase
namespace Go.Proofs.Ytknkiodpblbecaa
open Go.RowKit

theorem eqIntS_any (w : World) (aa ab : Option Addr) (n m ca cb : Nat) (la lb : List Int) (ha : Ints w aa n ca la) (hb : Ints w ab m cb lb) :
    Calls Try.prog 31 #[.slice aa n ca, .slice ab m cb] w fun e w' => e = .returned (.bool (decide (la = lb))) ∧ ∃ k, w' = w.drewN k := by
  have hma := ha.2.2.1
  have hmb := hb.2.2.1
  have HA := Lib.hid ha; clear ha
  have HB := Lib.hid hb; clear hb
  by_cases hnm : n = m
  · subst hnm
    go_enter Try.func31, Try.ntmps31
    go_wp2
    go_loopw [5] (fun i wr => ∃ k : Nat, k ≤ n ∧ i = .int .i64 k ∧ (∀ j, j < k → la[j]?.getD 0 = lb[j]?.getD 0) ∧ ∃ q, wr = w.drewN q) (fun i _ => n - (intOf i).toNat)
    case atStart => exact ⟨0, Nat.zero_le _, rfl, fun j hj => absurd hj (by omega), 0, rfl⟩
    case round =>
      obtain ⟨k, hk, rfl, hpre, q, rfl⟩ := hrel
      have HP := Lib.hid hpre; clear hpre
      by_cases hlt : k < n
      · obtain ⟨ba, oa, rfl, ga, _⟩ := HA.out.at hlt
        obtain ⟨bb, ob, rfl, gb, _⟩ := HB.out.at hlt
        go_wp2
        go_quiet (fail)
        go_wp2
        · have hne : (la[k]?.getD 0 != lb[k]?.getD 0) = true := by assumption
          go_ret
          refine ⟨ret_bool ?_, q + nq, by simp⟩
          refine (decide_eq_false fun h => ?_).symm
          subst h
          simp at hne
        · have hne : (la[k]?.getD 0 != lb[k]?.getD 0) = false := by assumption
          go_roundw
          case rel =>
            refine ⟨k + 1, by omega, by go_num, fun j hj => ?_, q + nq, rfl⟩
            by_cases e : j = k
            · subst e; simpa using hne
            · exact HP.out j (by omega)
          case measure => simp [intOf]; omega
      · go_wp2
        go_ret
        refine ⟨ret_bool (decide_eq_true ?_).symm, q, rfl⟩
        exact ext_getD (HA.out.len.symm.trans HB.out.len) (fun j hj => HP.out j (by have := HA.out.len; omega))
  · go_enter Try.func31, Try.ntmps31
    go_wp2
    go_ret
    refine ⟨ret_bool (decide_eq_false fun h => hnm ?_).symm, 0, rfl⟩
    rw [HA.out.len, HB.out.len, h]

def SzOk (left n r : Int) : Prop := 0 ≤ r → n ≤ left ∧ r = left - n

theorem szIntS_any (w : World) (aa : Option Addr) (n ca : Nat) (left : Int) (hn : n ≤ 9223372036854775807) (h0 : 0 ≤ left) (h1 : left ≤ 1048576) :
    Calls Try.prog 25 #[.slice aa n ca, .int .i64 left] w fun e w' => ∃ r : Int, e = .returned (.int .i64 r) ∧ -1 ≤ r ∧ r ≤ left ∧ SzOk left n r ∧ w = w' := by
  by_cases h : left < n
  · go_enter Try.func25, Try.ntmps25
    go_wp2
    go_ret
    exact ⟨-1, rfl, by omega, by omega, fun h => absurd h (by omega), rfl⟩
  · go_enter Try.func25, Try.ntmps25
    go_wp2
    go_ret
    exact ⟨left - n, rfl, by omega, by omega, fun _ => ⟨by omega, rfl⟩, rfl⟩

theorem toIntS_any (w : World) (aa : Option Addr) (n ca : Nat) (l : List Int) (ha : Ints w aa n ca l) (hn : n ≤ 1048576) :
    Calls Try.prog 28 #[.slice aa n ca] w fun e w' => ∃ ao cap, e = .returned (.slice ao n cap) ∧ Own w' w.heap.size w'.heap.size ao n cap l ∧ New w w' := by
  have HA := Lib.hid ha; clear ha
  have hmk := run_make_row' (P := Try.prog) 22 3 (.int .i64 0) 8 Try.underlying22 Try.infoInt rfl .i64 .i64 n (by omega) (by omega)
  go_enter Try.func28, Try.ntmps28
  go_wp2
  go_loopw [4] (fun i wr => ∃ (k : Nat) (f : Nat → Value), k ≤ n ∧ i = .int .i64 k ∧ wr.rowIs w.heap.size 3 n f ∧ (∀ j, j < k → f j = .int .i64 (l[j]?.getD 0)) ∧ (∀ j, ∃ z, f j = .int .i64 z) ∧ New w wr)
    (fun i _ => n - (intOf i).toNat)
  case atStart => exact ⟨0, _, Nat.zero_le _, rfl, World.rowIs_made _ _ _ _, fun j hj => absurd hj (by omega), fun _ => ⟨0, rfl⟩, (New.refl w).alloc _⟩
  case round =>
    obtain ⟨k, f, hk, rfl, hrow, hf, hz, hnew⟩ := hrel
    have HR := Lib.hid hrow; clear hrow
    have HF := Lib.hid hf; clear hf
    have HZ := Lib.hid hz; clear hz
    have HN := Lib.hid hnew; clear hnew
    by_cases hlt : k < n
    · obtain ⟨b, o, rfl, hc, _⟩ := HA.out.at hlt
      have hc' := HN.out.cell hc
      obtain ⟨z, ez⟩ := HZ.out k
      have hd : wr.cell? ⟨w.heap.size, k, none⟩ = some (.int .i64 z) := by rw [HR.out.cell hlt, ez]
      have hfz := HR.out.frozen k
      clear hc ez
      go_wp2
      go_roundw
      case rel =>
        refine ⟨k + 1, _, by omega, by go_num, HR.out.set k _, fun j hj => ?_, fun j => ?_, HN.out.setCell (Nat.le_refl _) _⟩
        · by_cases e : j = k
          · simp [e]
          · simp only [e, if_false]; exact HF.out j (by omega)
        · by_cases e : j = k
          · simp [e]
          · simp only [e, if_false]; exact HZ.out j
      case measure => simp [intOf]; omega
    · go_wp2
      go_ret
      obtain rfl : k = n := by omega
      refine ⟨_, _, rfl, ⟨HA.out.len, Nat.le_refl _, HA.out.2.2.1, .inr ⟨w.heap.size, f, rfl, Nat.le_refl _, HR.out.lt, HR.out, HF.out⟩⟩, HN.out⟩
end Go.Proofs.Ytknkiodpblbecaa
