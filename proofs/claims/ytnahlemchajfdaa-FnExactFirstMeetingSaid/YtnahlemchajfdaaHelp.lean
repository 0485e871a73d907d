/- The laws' own helpers, function by function. -/
import Derived.Test.YtnahlemchajfdaaBase
namespace Go.Proofs.Ytnahlemchajfdaa
open Go.RowKit

theorem eqIntS_any (w : World) (aa ab : Option Addr) (n m ca cb : Nat) (la lb : List Int) (ha : Ints w aa n ca la) (hb : Ints w ab m cb lb) :
    Calls Try.prog 15 #[.slice aa n ca, .slice ab m cb] w fun e w' => e = .returned (.bool (decide (la = lb))) ∧ ∃ k, w' = w.drewN k := by
  have hma := ha.2.2.1
  have hmb := hb.2.2.1
  have HA := Lib.hid ha; clear ha
  have HB := Lib.hid hb; clear hb
  by_cases hnm : n = m
  · subst hnm
    go_enter Try.func15, Try.ntmps15
    go_wp2
    go_loopw [5] (fun i wr => ∃ k : Nat, k ≤ n ∧ i = .int .i64 k ∧ (∀ j, j < k → la[j]?.getD 0 = lb[j]?.getD 0) ∧ ∃ q, wr = w.drewN q) (fun i _ => n - (intOf i).toNat)
    case atStart => exact ⟨0, Nat.zero_le _, rfl, fun j hj => absurd hj (by omega), 0, rfl⟩
    case round =>
      obtain ⟨k, hk, rfl, hpre, q, rfl⟩ := hrel
      have HP := Lib.hid hpre; clear hpre
      by_cases hlt : k < n
      · obtain ⟨ba, oa, rfl, ga, _⟩ := HA.out.at hlt
        obtain ⟨bb, ob, rfl, gb, _⟩ := HB.out.at hlt
        go_wp2
        go_quiet (fail)
        go_wp2
        · have hne : (la[k]?.getD 0 != lb[k]?.getD 0) = true := by assumption
          go_ret
          refine ⟨ret_bool ?_, q + nq, by simp⟩
          refine (decide_eq_false fun h => ?_).symm
          subst h
          simp at hne
        · have hne : (la[k]?.getD 0 != lb[k]?.getD 0) = false := by assumption
          go_roundw
          case rel =>
            refine ⟨k + 1, by omega, by go_num, fun j hj => ?_, q + nq, rfl⟩
            by_cases e : j = k
            · subst e; simpa using hne
            · exact HP.out j (by omega)
          case measure => simp [intOf]; omega
      · go_wp2
        go_ret
        refine ⟨ret_bool (decide_eq_true ?_).symm, q, rfl⟩
        exact ext_getD (HA.out.len.symm.trans HB.out.len) (fun j hj => HP.out j (by have := HA.out.len; omega))
  · go_enter Try.func15, Try.ntmps15
    go_wp2
    go_ret
    refine ⟨ret_bool (decide_eq_false fun h => hnm ?_).symm, 0, rfl⟩
    rw [HA.out.len, HB.out.len, h]

def SzOk (left n r : Int) : Prop := 0 ≤ r → n ≤ left ∧ r = left - n

theorem markIntS_any (w : World) (lo hi : Nat) (ao : Option Addr) (n cap : Nat) (l : List Int) (x : Int) (ha : Own w lo hi ao n cap l) (h0 : 0 ≤ x) (h1 : x + n ≤ 4611686018427387904) :
    Calls Try.prog 16 #[.slice ao n cap, .int .i64 x] w fun e w' => e = .returned (.int .i64 (x + n)) ∧ Own w' lo hi ao n cap (marks x n) ∧ Chg (fun b => n ≠ 0 ∧ blkOf ao = some b) w w' := by
  have HA := Lib.hid ha; clear ha
  by_cases hn : n = 0
  · subst hn
    go_enter Try.func16, Try.ntmps16
    go_wp2
    refine wp_loop_rounds 1 ?_
    rw [rounds_succ]
    go_wp2
    go_ret
    refine ⟨ret_int (by simp), by simpa [marks] using HA.out.zero, Chg.refl _ _⟩
  · obtain ⟨hl, hc, hm, b, f, rfl, hlo, hhi, hrow, hf⟩ : n = l.length ∧ n ≤ cap ∧ n ≤ 9223372036854775807 ∧ ∃ b f, ao = some ⟨b, 0, none⟩ ∧ lo ≤ b ∧ b < hi ∧ w.rowIs b 3 cap f ∧ ∀ j, j < n → f j = .int .i64 (l[j]?.getD 0) := by
      obtain ⟨a, b, c, d⟩ := HA.out
      exact ⟨a, b, c, d.resolve_left (fun h => hn h.1)⟩
    have HL := Lib.hid hl; clear hl
    have HF := Lib.hid hf; clear hf
    have HR := Lib.hid hrow; clear hrow
    go_enter Try.func16, Try.ntmps16
    go_wp2
    go_loopw [1, 5] (fun y i wr => ∃ (k : Nat) (g : Nat → Value), k ≤ n ∧ i = .int .i64 k ∧ y = .int .i64 (x + k) ∧ wr.rowIs b 3 cap g ∧ (∀ j, j < k → g j = .int .i64 (x + j)) ∧ (∀ j, k ≤ j → g j = f j) ∧ Chg (fun b' => n ≠ 0 ∧ blkOf (some ⟨b, 0, none⟩) = some b') w wr)
      (fun _ i _ => n - (intOf i).toNat)
    case atStart => exact ⟨0, f, Nat.zero_le _, rfl, by simp, HR.out, fun j hj => absurd hj (by omega), fun _ _ => rfl, Chg.refl _ _⟩
    case round =>
      obtain ⟨k, g, hk, rfl, rfl, hrow, hg, hg', hchg⟩ := hrel
      have HG := Lib.hid hg; clear hg
      have HG' := Lib.hid hg'; clear hg'
      have HW := Lib.hid hrow; clear hrow
      have HC := Lib.hid hchg; clear hchg
      by_cases hlt : k < n
      · have hd : wr.cell? ⟨b, k, none⟩ = some (.int .i64 (l[k]?.getD 0)) := by rw [HW.out.cell (by omega), HG'.out k (Nat.le_refl _), HF.out k hlt]
        have hfz := HW.out.frozen k
        go_wp2
        go_roundw
        case rel =>
          refine ⟨k + 1, _, by omega, by go_num, by go_num, HW.out.set k _, fun j hj => ?_, fun j hj => ?_, HC.out.trans ⟨rfl, rfl, rfl, by simp [World.setCell], fun i _ hp => Below.heap_setCell _ _ _ _ (fun e => hp ⟨hn, by simp [blkOf, e]⟩)⟩⟩
          · by_cases e : j = k
            · simp [e]
            · simp only [e, if_false]; exact HG.out j (by omega)
          · rw [if_neg (by omega)]; exact HG'.out j (by omega)
        case measure => simp [intOf]; omega
      · go_wp2
        go_ret
        obtain rfl : k = n := by omega
        refine ⟨rfl, ⟨(marks_length _ _).symm, hc, hm, .inr ⟨b, g, rfl, hlo, hhi, HW.out, fun j hj => ?_⟩⟩, HC.out⟩
        rw [HG.out j hj, marks_get _ _ _ hj]

theorem heldIntS_any (w : World) (ao : Option Addr) (n cap : Nat) (x : Int) (ha : Ints w ao n cap (marks x n)) (h0 : 0 ≤ x) (h1 : x + n ≤ 4611686018427387904) :
    Calls Try.prog 17 #[.slice ao n cap, .int .i64 x] w fun e w' => e = .returned (.int .i64 (x + n)) ∧ ∃ q, w' = w.drewN q := by
  have HA := Lib.hid ha; clear ha
  have hm := HA.out.2.2.1
  go_enter Try.func17, Try.ntmps17
  go_wp2
  go_loopw [1, 5] (fun y i wr => ∃ k q : Nat, k ≤ n ∧ i = .int .i64 k ∧ y = .int .i64 (x + k) ∧ wr = w.drewN q) (fun _ i _ => n - (intOf i).toNat)
  case atStart => exact ⟨0, 0, Nat.zero_le _, rfl, by simp, rfl⟩
  case round =>
    obtain ⟨k, q, hk, rfl, rfl, rfl⟩ := hrel
    by_cases hlt : k < n
    · obtain ⟨b, o, rfl, hc, _⟩ := HA.out.at hlt
      rw [marks_get _ _ _ hlt] at hc
      go_wp2
      go_roundw
      case rel => exact ⟨k + 1, q, by omega, by go_num, by go_num, rfl⟩
      case measure => simp [intOf]; omega
    · go_wp2
      go_ret
      obtain rfl : k = n := by omega
      exact ⟨rfl, q, rfl⟩
end Go.Proofs.Ytnahlemchajfdaa
