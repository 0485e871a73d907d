/- hSame, hBasins and hSum of the laws. -/
import Derived.Test.YtchnnbkaiagpgaaRowBasin
import Derived.Test.YtchnnbkaiagpgaaTot
import Derived.Test.YtchnnbkaiagpgaaWeirS
import Derived.Test.YtchnnbkaiagpgaaWeirI
import Derived.BigQuiet
namespace Go.Proofs.Ytchnnbkaiagpgaa
open Go.RowKit Go.IntWalk

theorem hSame_same (w : World) (aa ab : Option Addr) (n m ca cb : Nat) (l : List Int) (ha : Ints w aa n ca l) (hb : Ints w ab m cb l) :
    Calls Try.prog 19 #[.slice aa n ca, .slice ab m cb] w fun e w' => e = .returned (.bool true) ∧ New w w' := by
  have hma := ha.2.2.1
  have hnm : m = n := by rw [ha.1, hb.1]
  subst hnm
  have HA := Lib.hid ha; clear ha
  have HB := Lib.hid hb; clear hb
  go_enter Try.func19, Try.ntmps19
  go_wp2
  go_loopw [13] (fun i wr => ∃ k : Nat, k ≤ m ∧ i = .int .i64 k ∧ ∃ q, wr = w.drewN q) (fun i _ => m - (intOf i).toNat)
  case atStart => exact ⟨0, Nat.zero_le _, rfl, 0, rfl⟩
  case round =>
    obtain ⟨k, hk, rfl, q, rfl⟩ := hrel
    by_cases hlt : k < m
    · obtain ⟨ba, oa, rfl, ga, _⟩ := HA.out.at hlt
      obtain ⟨bb, ob, rfl, gb, _⟩ := HB.out.at hlt
      obtain ⟨y, hy⟩ : ∃ y, y = l[k]?.getD 0 := ⟨_, rfl⟩
      rw [← hy] at ga gb
      clear hy
      have gk : IntKind.i64.wrap ((k : Int) + 1) = (k : Int) + 1 := i64_in _ (by omega)
      go_wp2
      go_quiet (fail)
      go_wp2
      go_roundw
      case rel => exact ⟨k + 1, by omega, by go_num, q + nq, by simp⟩
      case measure => simp [intOf]; omega
    · obtain rfl : k = m := by omega
      go_wp2
      go_ret
      exact ⟨rfl, (New.refl _).drewN _⟩

theorem hBasins_same (w : World) (aa ab : Option Addr) (n m ca cb : Nat) (l : List (Int × Int × Int)) (ha : Basins w aa n ca l) (hb : Basins w ab m cb l) :
    Calls Try.prog 20 #[.slice aa n ca, .slice ab m cb] w fun e w' => e = .returned (.bool true) ∧ New w w' := by
  have hma := ha.2.2.1
  have hnm : m = n := by rw [ha.1, hb.1]
  subst hnm
  have HA := Lib.hid ha; clear ha
  have HB := Lib.hid hb; clear hb
  go_enter Try.func20, Try.ntmps20
  go_wp2
  go_loopw [13] (fun i wr => ∃ k : Nat, k ≤ m ∧ i = .int .i64 k ∧ ∃ q, wr = w.drewN q) (fun i _ => m - (intOf i).toNat)
  case atStart => exact ⟨0, Nat.zero_le _, rfl, 0, rfl⟩
  case round =>
    obtain ⟨k, hk, rfl, q, rfl⟩ := hrel
    by_cases hlt : k < m
    · obtain ⟨ba, oa, rfl, ga0, ga1, ga2⟩ := HA.out.2.2.2.1 k hlt
      obtain ⟨bb, ob, rfl, gb0, gb1, gb2⟩ := HB.out.2.2.2.1 k hlt
      obtain ⟨y, hy⟩ : ∃ y, y = (l[k]?.getD (0, 0, 0)).1 := ⟨_, rfl⟩
      obtain ⟨z, hz⟩ : ∃ y, y = (l[k]?.getD (0, 0, 0)).2.1 := ⟨_, rfl⟩
      obtain ⟨u, hu⟩ : ∃ y, y = (l[k]?.getD (0, 0, 0)).2.2 := ⟨_, rfl⟩
      rw [← hy] at ga0 gb0
      rw [← hz] at ga1 gb1
      rw [← hu] at ga2 gb2
      clear hy hz hu
      have gk : IntKind.i64.wrap ((k : Int) + 1) = (k : Int) + 1 := i64_in _ (by omega)
      go_wp2
      go_quiet (fail)
      go_wp2
      go_roundw
      case rel => exact ⟨k + 1, by omega, by go_num, q + nq, by simp⟩
      case measure => simp [intOf]; omega
    · obtain rfl : k = m := by omega
      go_wp2
      go_ret
      exact ⟨rfl, (New.refl _).drewN _⟩
theorem totK_in {l : List Int} {n : Nat} {B : Int} (hl : ∀ j, j < n → 0 ≤ l[j]?.getD 0 ∧ l[j]?.getD 0 ≤ B) (k : Nat) (hk : k ≤ n) : 0 ≤ totK l k ∧ totK l k ≤ B * k := by
  induction k with
  | zero => exact ⟨by simp [totK], by simp [totK]⟩
  | succ k ih =>
    have q := ih (by omega)
    have q1 := hl k (by omega)
    have e : B * ((k + 1 : Nat) : Int) = B * k + B := by push_cast; rw [Int.mul_add, Int.mul_one]
    rw [e]
    unfold totK
    omega

theorem hSum_any (w : World) (aa : Option Addr) (n ca : Nat) (l : List Int) (ha : Ints w aa n ca l) (hn : n ≤ 1000000) (hl : ∀ j, j < n → 0 ≤ l[j]?.getD 0 ∧ l[j]?.getD 0 ≤ 1000000) :
    Calls Try.prog 24 #[.slice aa n ca] w fun e w' => e = .returned (.int .i64 (totK l n)) ∧ w = w' := by
  have HA := Lib.hid ha; clear ha
  have BD := Lib.hid (totK_in hl)
  have HLB := Lib.hid hl; clear hl
  go_enter Try.func24, Try.ntmps24
  go_wp2
  go_loopw [3, 8] (fun s i wr => ∃ k : Nat, k ≤ n ∧ i = .int .i64 k ∧ s = .int .i64 (totK l k) ∧ w = wr) (fun _ i _ => n - (intOf i).toNat)
  case atStart => exact ⟨0, Nat.zero_le _, rfl, rfl, rfl⟩
  case round =>
    obtain ⟨k, hk, rfl, rfl, rfl⟩ := hrel
    by_cases hlt : k < n
    · obtain ⟨ba, oa, rfl, ga, _⟩ := HA.out.at hlt
      have b0 := BD.out k hk
      have b1 := HLB.out k hlt
      have SS := Lib.hid (show totK l (k + 1) = totK l k + l[k]?.getD 0 from rfl)
      obtain ⟨y, hy⟩ : ∃ y, y = l[k]?.getD 0 := ⟨_, rfl⟩
      obtain ⟨s, hs⟩ : ∃ y, y = totK l k := ⟨_, rfl⟩
      rw [← hy] at ga SS b1
      rw [← hs] at SS b0
      rw [← hs]
      clear hy hs
      have gs : IntKind.i64.wrap (s + y) = s + y := i64_in _ (by omega)
      have gk : IntKind.i64.wrap ((k : Int) + 1) = (k : Int) + 1 := i64_in _ (by omega)
      go_wp2
      go_roundw
      case rel => exact ⟨k + 1, by omega, by go_num, by rw [SS.out], by trivial⟩
      case measure => simp [intOf]; omega
    · obtain rfl : k = n := by omega
      go_wp2
      go_ret
      exact ⟨rfl, by trivial⟩
theorem hSame_q (w : World) (aa ab : Option Addr) (n m ca cb : Nat) (l : List Int) (ha : Ints w aa n ca l) (hb : Ints w ab m cb l) :
    Calls Try.prog 19 #[.slice aa n ca, .slice ab m cb] w fun e w' => e = .returned (.bool true) ∧ ∃ q, w' = w.drewN q := by
  have hma := ha.2.2.1
  have hnm : m = n := by rw [ha.1, hb.1]
  subst hnm
  have HA := Lib.hid ha; clear ha
  have HB := Lib.hid hb; clear hb
  go_enter Try.func19, Try.ntmps19
  go_wp2
  go_loopw [13] (fun i wr => ∃ k : Nat, k ≤ m ∧ i = .int .i64 k ∧ ∃ q, wr = w.drewN q) (fun i _ => m - (intOf i).toNat)
  case atStart => exact ⟨0, Nat.zero_le _, rfl, 0, rfl⟩
  case round =>
    obtain ⟨k, hk, rfl, q, rfl⟩ := hrel
    by_cases hlt : k < m
    · obtain ⟨ba, oa, rfl, ga, _⟩ := HA.out.at hlt
      obtain ⟨bb, ob, rfl, gb, _⟩ := HB.out.at hlt
      obtain ⟨y, hy⟩ : ∃ y, y = l[k]?.getD 0 := ⟨_, rfl⟩
      rw [← hy] at ga gb
      clear hy
      have gk : IntKind.i64.wrap ((k : Int) + 1) = (k : Int) + 1 := i64_in _ (by omega)
      go_wp2
      go_quiet (fail)
      go_wp2
      go_roundw
      case rel => exact ⟨k + 1, by omega, by go_num, q + nq, by simp⟩
      case measure => simp [intOf]; omega
    · obtain rfl : k = m := by omega
      go_wp2
      go_ret
      exact ⟨rfl, q, rfl⟩

/-- AreFlows leaves the world as it was. -/
theorem iAreFlows_q (w : World) (aa : Option Addr) (n ca : Nat) (xs : List Int) (ha : Ints w aa n ca xs) :
    Calls Try.prog 22 #[.slice aa n ca] w fun e w' => e = .returned (.bool (flowB xs)) ∧ w' = w := by
  have HL := Lib.hid ha.1
  have hm := ha.2.2.1
  have HA := Lib.hid ha; clear ha
  by_cases hn : n ≤ 60
  · have HE := Lib.hid (show flowB xs = allB 0 1000 xs by unfold flowB; rw [decide_eq_true (by have := HL.out; omega), Bool.true_and])
    go_enter Try.func22, Try.ntmps22
    go_wp2_with fail
    refine (areWithin_any _ _ _ _ xs _ _ HA.out).mono ?_
    rintro e w9 ⟨rfl, rfl⟩
    go_wp2
    go_ret
    exact ⟨ret_bool HE.out.symm, rfl⟩
  · have HE := Lib.hid (show flowB xs = false by unfold flowB; rw [decide_eq_false (by have := HL.out; omega), Bool.false_and])
    go_enter Try.func22, Try.ntmps22
    go_wp2
    go_ret
    exact ⟨ret_bool HE.out.symm, rfl⟩
theorem weFlows_q (w : World) (aa : Option Addr) (n ca : Nat) (xs : List Int) (ha : Ints w aa n ca xs) :
    Calls Try.prog 66 #[.slice aa n ca] w fun e w' => e = .returned (.bool (flowB xs)) ∧ w' = w := by
  have HL := Lib.hid ha.1
  have hm := ha.2.2.1
  have HA := Lib.hid ha; clear ha
  by_cases hn : n ≤ 60
  · have HE := Lib.hid (show flowB xs = allB 0 1000 xs by unfold flowB; rw [decide_eq_true (by have := HL.out; omega), Bool.true_and])
    go_enter Try.func66, Try.ntmps66
    go_wp2_with fail
    refine (l1All_any _ _ _ _ xs _ _ HA.out).mono ?_
    rintro e w9 ⟨rfl, rfl⟩
    go_wp2
    go_ret
    exact ⟨ret_bool HE.out.symm, rfl⟩
  · have hf : decide ((n : Int) ≤ 60) = false := decide_eq_false (by omega)
    have HE := Lib.hid (show flowB xs = false by unfold flowB; rw [decide_eq_false (by have := HL.out; omega), Bool.false_and])
    go_enter Try.func66, Try.ntmps66
    go_wp2
    go_ret
    exact ⟨ret_bool HE.out.symm, rfl⟩
theorem sAreFlows_q (w : World) (aa : Option Addr) (n ca : Nat) (l : List Int) (ha : Ints w aa n ca l) :
    Calls Try.prog 33 #[.slice aa n ca] w fun e w' => e = .returned (.bool (flowB l)) ∧ w' = w := by
  have HA := Lib.hid ha; clear ha
  go_enter Try.func33, Try.ntmps33
  go_wp2_with fail
  refine (weFlows_q _ _ _ _ l HA.out).mono ?_
  rintro e w1 ⟨rfl, rfl⟩
  go_wp2
  go_ret
  exact ⟨rfl, rfl⟩

end Go.Proofs.Ytchnnbkaiagpgaa
