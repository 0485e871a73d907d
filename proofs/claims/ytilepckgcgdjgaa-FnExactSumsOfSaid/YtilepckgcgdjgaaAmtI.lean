/- The plan behind which an amount is measured: the model's. -/
import Derived.Test.YtilepckgcgdjgaaWayS
import Derived.Test.YtilepckgcgdjgaaLayI
namespace Go.Proofs.Ytilepckgcgdjgaa
open Go.RowKit Go.Maps

def amtK (L : List Node) (x : Int) (k : Nat) : Bool := decide (x ∈ (L[k]?.getD dN).h)
/-- The first of the first n at which it is measured, or n. -/
def firstK (L : List Node) (x : Int) : Nat → Nat
  | 0 => 0
  | n + 1 => if firstK L x n < n then firstK L x n else if amtK L x n = true then n else n + 1
theorem firstK_le (L : List Node) (x : Int) (n : Nat) : firstK L x n ≤ n := by
  induction n with
  | zero => exact Nat.le_refl _
  | succ n ih => unfold firstK; split
                 · omega
                 · split <;> omega
theorem firstK_none {L : List Node} {x : Int} {n : Nat} (h : ∀ j, j < n → amtK L x j = false) : firstK L x n = n := by
  induction n with
  | zero => rfl
  | succ n ih =>
    have q := ih fun j hj => h j (by omega)
    unfold firstK
    rw [q, if_neg (by omega), h n (by omega)]
    simp
theorem firstK_at {L : List Node} {x : Int} {k : Nat} (hk : amtK L x k = true) (h : ∀ j, j < k → amtK L x j = false) {n : Nat} (hn : k < n) : firstK L x n = k := by
  induction n with
  | zero => omega
  | succ n ih =>
    by_cases e : k < n
    · have q := ih e
      unfold firstK
      rw [q, if_pos e]
    · obtain rfl : k = n := by omega
      have q := firstK_none h
      unfold firstK
      rw [q, if_neg (by omega), if_pos hk]
def amtB' (S H : List Int) (x : Int) (cl : Bool) : Bool := countB S H cl && inB 0 60 x
def ptaL (E : List Node) (x : Int) : List (Int × Int) × Bool := if firstK E x E.length < E.length then (wayN E (firstK E x E.length), true) else ([], false)
def ptaM (S H : List Int) (x : Int) (cl : Bool) : List (Int × Int) × Bool := if amtB' S H x cl = true then ptaL (endN S H cl 3000) x else ([], false)
theorem ptaM_yes {S H : List Int} {x : Int} {cl : Bool} (h : amtB' S H x cl = true) : ptaM S H x cl = ptaL (endN S H cl 3000) x := by simp [ptaM, h]
theorem ptaM_no {S H : List Int} {x : Int} {cl : Bool} (h : amtB' S H x cl = false) : ptaM S H x cl = ([], false) := by simp [ptaM, h]
theorem ptaL_at {E : List Node} {x : Int} {k : Nat} (hk : amtK E x k = true) (h : ∀ j, j < k → amtK E x j = false) (hn : k < E.length) : ptaL E x = (wayN E k, true) := by
  unfold ptaL
  rw [firstK_at hk h hn, if_pos hn]
theorem ptaL_none {E : List Node} {x : Int} (h : ∀ j, j < E.length → amtK E x j = false) : ptaL E x = ([], false) := by
  unfold ptaL
  rw [firstK_none h, if_neg (by omega)]
theorem ptaL_small {S H : List Int} {E : List Node} {x : Int} (hf : Found S H E) : (ptaL E x).1.length ≤ E.length := by
  unfold ptaL
  split
  · rename_i h
    exact Nat.le_trans (wayN_small hf h) (by omega)
  · simp
theorem pta_small {ok : Bool} {S H : List Int} {cl : Bool} {most : Nat} {x : Int} (hg : ok = true → (goodB S H && fewB S H cl most) = true) : (if ok = true then ptaL (endN S H cl most) x else (([] : List (Int × Int)), false)).1.length ≤ most := by
  cases ok
  · simp
  · have h := hg rfl
    obtain ⟨h1, h2⟩ := goodfew h
    rw [if_pos rfl]
    exact Nat.le_trans (ptaL_small (endN_found cl most h1)) h2
theorem amtB'_count {S H : List Int} {x : Int} {cl : Bool} (h : amtB' S H x cl = true) : countB S H cl = true ∧ inB 0 60 x = true := by
  unfold amtB' at h
  rwa [Bool.and_eq_true] at h
theorem ptaM_small (S H : List Int) (x : Int) (cl : Bool) : (ptaM S H x cl).1.length ≤ 1048576 := Nat.le_trans (pta_small (ok := amtB' S H x cl) (most := 3000) fun h => (amtB'_count h).1) (by omega)

theorem isAmount_any (w : World) (x : Int) : Calls Try.prog 68 #[.int .i64 x] w fun e w' => e = .returned (.bool (inB 0 60 x)) ∧ w = w' := by
  by_cases h1 : 0 ≤ x
  · go_enter Try.func68, Try.ntmps68
    by_cases h2 : x ≤ 60
    · go_wp2
      go_ret
      exact ⟨ret_bool (by simp [inB]; omega), rfl⟩
    · go_wp2
      go_ret
      exact ⟨ret_bool (by simp [inB]; omega), rfl⟩
  · go_enter Try.func68, Try.ntmps68
    go_wp2
    go_ret
    exact ⟨ret_bool (by simp [inB]; omega), rfl⟩

theorem index_any (w : World) (aa : Option Addr) (n ca : Nat) (l : List Int) (x : Int) (ha : Ints w aa n ca l) (hn : n ≤ 1000000) :
    Calls Try.prog 101 #[.slice aa n ca, .int .i64 x] w fun e w' => ∃ z : Int, e = .returned (.int .i64 z) ∧ (decide (0 ≤ z) = decide (x ∈ l)) ∧ New w w' := by
  have L1 := Lib.hid ha.1
  have HA := Lib.hid ha; clear ha
  go_enter Try.func101, Try.ntmps101
  go_wp2
  go_loopw [8] (fun i wr => ∃ k : Nat, k ≤ n ∧ i = .int .i64 k ∧ New w wr ∧ hasB x l k) (fun i _ => n - (intOf i).toNat)
  case atStart => exact ⟨0, Nat.zero_le _, rfl, New.refl _, fun j hj => absurd hj (by omega)⟩
  case round =>
    obtain ⟨k, hk, rfl, hnw, hpre⟩ := hrel
    have NW := Lib.hid hnw; clear hnw
    have HP := Lib.hid hpre; clear hpre
    by_cases hlt : k < n
    · obtain ⟨b1, o1, rfl, g1, _⟩ := (HA.out.new NW.out).at hlt
      obtain ⟨y, hy⟩ : ∃ y, y = l[k]?.getD 0 := ⟨_, rfl⟩
      rw [← hy] at g1
      have HY := Lib.hid hy; clear hy
      by_cases he : y = x
      · subst he
        have hm2 := Lib.hid (mem_at (by have := L1.out; omega) HY.out.symm)
        go_wp2
        go_ret
        exact ⟨_, rfl, by rw [decide_eq_true hm2.out]; exact decide_eq_true (by omega), NW.out⟩
      · have hne : (x == y) = false := by simpa using fun e : x = y => he e.symm
        have hne2 : (y == x) = false := by simpa using he
        go_wp2
        go_roundw
        case rel =>
          refine ⟨k + 1, by omega, by go_num, NW.out, fun j hj => ?_⟩
          by_cases e : j = k
          · subst e; rw [← HY.out]; exact he
          · exact HP.out j (by omega)
        case measure => simp [intOf]; omega
    · obtain rfl : k = n := by omega
      have hno := Lib.hid (not_mem (by rw [← L1.out]; exact HP.out))
      go_wp2
      go_ret
      exact ⟨_, rfl, by rw [decide_eq_false hno.out]; exact decide_eq_false (by omega), NW.out⟩

theorem contains_any (w : World) (aa : Option Addr) (n ca : Nat) (l : List Int) (x : Int) (ha : Ints w aa n ca l) (hn : n ≤ 1000000) :
    Calls Try.prog 87 #[.slice aa n ca, .int .i64 x] w fun e w' => e = .returned (.bool (decide (x ∈ l))) ∧ New w w' := by
  have HA := Lib.hid ha; clear ha
  go_enter Try.func87, Try.ntmps87
  go_wp2_with fail
  refine (index_any _ _ _ _ l x HA.out hn).mono ?_
  rintro e w1 ⟨z, rfl, hz, n1⟩
  have HZ := Lib.hid hz; clear hz
  have N1 := Lib.hid n1; clear n1
  by_cases h0 : 0 ≤ z
  · go_wp2
    go_ret
    exact ⟨ret_bool (by rw [← HZ.out] <;> simp <;> omega), N1.out⟩
  · go_wp2
    go_ret
    exact ⟨ret_bool (by rw [← HZ.out] <;> simp <;> omega), N1.out⟩
end Go.Proofs.Ytilepckgcgdjgaa
