/- What vessels hold along a list of moves; lists of arrays of five, lists of vessels. Nothing here speaks of the program's text. -/
import Derived.Test.YtilepckgcgdjgaaMoves
import Derived.Test.YtilepckgcgdjgaaModel
namespace Go.Proofs.Ytilepckgcgdjgaa
open Go.RowKit

/-- What is held behind the first k moves. -/
def along (S H : List Int) (L : List (Int × Int)) : Nat → List Int
  | 0 => H
  | k + 1 => poured S (along S H L k) (L[k]?.getD (0, 0)).1 (L[k]?.getD (0, 0)).2
theorem along_succ (S H : List Int) (L : List (Int × Int)) (k : Nat) (f t : Int) (h : L[k]?.getD (0, 0) = (f, t)) : along S H L (k + 1) = poured S (along S H L k) f t := by
  show poured S (along S H L k) (L[k]?.getD (0, 0)).1 (L[k]?.getD (0, 0)).2 = _
  rw [h]
def pairB (n : Nat) (p : Int × Int) : Bool := moveB n p.1 p.2
def movesOkB (n : Nat) (L : List (Int × Int)) : Bool := L.all (pairB n)
def movesB (S H : List Int) (L : List (Int × Int)) : Bool := goodB S H && decide (L.length ≤ 100) && movesOkB S.length L
theorem movesOk_at {n : Nat} {L : List (Int × Int)} (h : movesOkB n L = true) {k : Nat} (hk : k < L.length) : MoveOk n (L[k]?.getD (0, 0)).1 (L[k]?.getD (0, 0)).2 := by
  unfold movesOkB at h
  rw [List.all_eq_true] at h
  have := h L[k] (List.getElem_mem hk)
  rw [List.getElem?_eq_getElem hk]
  exact moveB_iff.1 this
theorem movesOk_no {n : Nat} {L : List (Int × Int)} {k : Nat} (hk : k < L.length) (h : moveB n (L[k]?.getD (0, 0)).1 (L[k]?.getD (0, 0)).2 = false) : movesOkB n L = false := by
  rw [← Bool.not_eq_true]
  intro h2
  have := movesOk_at h2 hk
  rw [moveB_false] at h
  exact h this
theorem movesOk_yes {n : Nat} {L : List (Int × Int)} (h : ∀ k, k < L.length → moveB n (L[k]?.getD (0, 0)).1 (L[k]?.getD (0, 0)).2 = true) : movesOkB n L = true := by
  unfold movesOkB
  rw [List.all_eq_true]
  intro p hp
  obtain ⟨k, hk, rfl⟩ := List.getElem_of_mem hp
  have := h k hk
  rw [List.getElem?_eq_getElem hk] at this
  exact this
theorem movesB_iff {S H : List Int} {L : List (Int × Int)} : movesB S H L = true ↔ Good S H ∧ L.length ≤ 100 ∧ movesOkB S.length L = true := by
  unfold movesB
  rw [Bool.and_eq_true, Bool.and_eq_true, goodB_iff, decide_eq_true_eq, and_assoc]

theorem poured_len (S H : List Int) (f t : Int) : (poured S H f t).length = H.length := by
  unfold poured
  simp only
  split <;> split <;> simp
theorem Good.poured {S H : List Int} {f t : Int} (hg : Good S H) (hm : MoveOk S.length f t) : Good S (poured S H f t) := by
  obtain ⟨h1, h2, h3, h4⟩ := hg
  have hg : Good S H := ⟨h1, h2, h3, h4⟩
  refine ⟨h1, (poured_len S H f t).trans h2, h3, fun j hj => ?_⟩
  have q := h4 j hj
  rcases hm.parts with ⟨rfl, a, rfl, ha⟩ | ⟨rfl, a, rfl, ha⟩ | ⟨a, b, rfl, rfl, ha, hb, hab⟩
  · rw [poured_in, amt_in, List.getElem?_set]
    have := hg.at ha
    by_cases e : a = j
    · subst e; rw [if_pos rfl, if_pos (by omega)]; simp; omega
    · rw [if_neg e]; exact q
  · rw [poured_out, amt_out, List.getElem?_set]
    have := hg.at ha
    by_cases e : a = j
    · subst e; rw [if_pos rfl, if_pos (by omega)]; simp; omega
    · rw [if_neg e]; exact q
  · rw [poured_mid S H a b hab, amt_mid, List.getElem?_set, List.getElem?_set, List.length_set]
    have u := hg.at ha
    have v := hg.at hb
    by_cases e : b = j
    · subst e; rw [if_pos rfl, if_pos (by omega)]; simp; omega
    · rw [if_neg e]
      by_cases e2 : a = j
      · subst e2; rw [if_pos rfl, if_pos (by omega)]; simp; omega
      · rw [if_neg e2]; exact q
theorem along_good {S H : List Int} {L : List (Int × Int)} (hg : Good S H) (hm : movesOkB S.length L = true) : ∀ k, k ≤ L.length → Good S (along S H L k) := by
  intro k
  induction k with
  | zero => exact fun _ => hg
  | succ k ih => exact fun hk => (ih (by omega)).poured (movesOk_at hm (by omega))

/-- How much comes from the tap, and how much goes to the drain, in the first k moves. -/
def tapK (S H : List Int) (L : List (Int × Int)) : Nat → Int
  | 0 => 0
  | k + 1 => tapK S H L k + if (L[k]?.getD (0, 0)).1 = -1 then amt S (along S H L k) (L[k]?.getD (0, 0)).1 (L[k]?.getD (0, 0)).2 else 0
def drainK (S H : List Int) (L : List (Int × Int)) : Nat → Int
  | 0 => 0
  | k + 1 => drainK S H L k + if (L[k]?.getD (0, 0)).1 ≠ -1 ∧ (L[k]?.getD (0, 0)).2 = -1 then amt S (along S H L k) (L[k]?.getD (0, 0)).1 (L[k]?.getD (0, 0)).2 else 0
theorem tapK_succ (S H : List Int) (L : List (Int × Int)) (k : Nat) (f t : Int) (h : L[k]?.getD (0, 0) = (f, t)) : tapK S H L (k + 1) = tapK S H L k + if f = -1 then amt S (along S H L k) f t else 0 := by
  show tapK S H L k + (if (L[k]?.getD (0, 0)).1 = -1 then amt S (along S H L k) (L[k]?.getD (0, 0)).1 (L[k]?.getD (0, 0)).2 else 0) = _
  rw [h]
theorem drainK_succ (S H : List Int) (L : List (Int × Int)) (k : Nat) (f t : Int) (h : L[k]?.getD (0, 0) = (f, t)) : drainK S H L (k + 1) = drainK S H L k + if f ≠ -1 ∧ t = -1 then amt S (along S H L k) f t else 0 := by
  show drainK S H L k + (if (L[k]?.getD (0, 0)).1 ≠ -1 ∧ (L[k]?.getD (0, 0)).2 = -1 then amt S (along S H L k) (L[k]?.getD (0, 0)).1 (L[k]?.getD (0, 0)).2 else 0) = _
  rw [h]
theorem taken_bd {S H : List Int} {L : List (Int × Int)} (hg : Good S H) (hm : movesOkB S.length L = true) : ∀ k, k ≤ L.length → (0 ≤ tapK S H L k ∧ tapK S H L k ≤ 60 * (k : Int)) ∧ 0 ≤ drainK S H L k ∧ drainK S H L k ≤ 60 * (k : Int) := by
  intro k
  induction k with
  | zero => intro _; simp [tapK, drainK]
  | succ k ih =>
    intro hk
    have q := ih (by omega)
    have a := amt_bd (along_good hg hm k (by omega)) (movesOk_at hm (show k < L.length by omega))
    obtain ⟨f, t, e⟩ : ∃ f t, L[k]?.getD (0, 0) = (f, t) := ⟨_, _, rfl⟩
    rw [tapK_succ S H L k f t e, drainK_succ S H L k f t e]
    rw [e] at a
    simp only at a
    constructor <;> split <;> omega
def takenM (S H : List Int) (L : List (Int × Int)) : Int × Int × Bool := if movesB S H L = true then (tapK S H L L.length, drainK S H L L.length, true) else (0, 0, false)
theorem takenM_no {S H : List Int} {L : List (Int × Int)} (h : movesB S H L = false) : takenM S H L = (0, 0, false) := by simp [takenM, h]
theorem takenM_yes {S H : List Int} {L : List (Int × Int)} (h : movesB S H L = true) : takenM S H L = (tapK S H L L.length, drainK S H L L.length, true) := by simp [takenM, h]
def madeM (S H : List Int) (L : List (Int × Int)) : List Int × List Int × Bool := if movesB S H L = true then (S, along S H L L.length, true) else ([], [], false)
theorem madeM_no {S H : List Int} {L : List (Int × Int)} (h : movesB S H L = false) : madeM S H L = ([], [], false) := by simp [madeM, h]
theorem madeM_yes {S H : List Int} {L : List (Int × Int)} (h : movesB S H L = true) : madeM S H L = (S, along S H L L.length, true) := by simp [madeM, h]
theorem madeM_small (S H : List Int) (L : List (Int × Int)) : (madeM S H L).1.length ≤ 1048576 ∧ (madeM S H L).2.1.length ≤ 1048576 := by
  by_cases h : movesB S H L = true
  · obtain ⟨hg, _, hm⟩ := movesB_iff.1 h
    have q := along_good hg hm L.length (Nat.le_refl _)
    have h1 := q.1
    have h2 := q.2.1
    rw [madeM_yes h]
    exact ⟨by show S.length ≤ _; omega, by show (along S H L L.length).length ≤ _; omega⟩
  · rw [madeM_no (by simpa using h)]
    exact ⟨by simp, by simp⟩

/-- The arrays of five, cell by cell. -/
def flat5 (A : Nat → List Int) : Nat → List Value
  | 0 => []
  | k + 1 => flat5 A k ++ [.int .i64 ((A k)[0]?.getD 0), .int .i64 ((A k)[1]?.getD 0), .int .i64 ((A k)[2]?.getD 0), .int .i64 ((A k)[3]?.getD 0), .int .i64 ((A k)[4]?.getD 0)]
theorem flat5_length (A : Nat → List Int) (k : Nat) : (flat5 A k).length = k * 5 := by
  induction k with
  | zero => rfl
  | succ k ih => simp [flat5, ih]; omega
theorem flat5_get (A : Nat → List Int) {n j i : Nat} (hj : j < n) (hi : i < 5) : (flat5 A n)[j * 5 + i]? = some (.int .i64 ((A j)[i]?.getD 0)) := by
  induction n with
  | zero => omega
  | succ n ih =>
    have hl := flat5_length A n
    by_cases h : j < n
    · rw [flat5, List.getElem?_append_left (by omega)]
      exact ih h
    · obtain rfl : j = n := by omega
      rw [flat5, List.getElem?_append_right (by omega)]
      have e : j * 5 + i - (flat5 A j).length = i := by omega
      rw [e]
      match i, hi with
      | 0, _ => rfl
      | 1, _ => rfl
      | 2, _ => rfl
      | 3, _ => rfl
      | 4, _ => rfl
end Go.Proofs.Ytilepckgcgdjgaa
