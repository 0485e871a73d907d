/- Clocks and wheels, on numbers. Nothing here speaks of the program. -/
import Derived.Test.YtnahlemchajfdaaAll
namespace Go.Proofs.Ytnahlemchajfdaa
open Go.RowKit

/-- A quotient rounded up. -/
def qUp (a b : Int) : Int := (a + b - 1) / b
theorem qUp_bd {a b : Int} (ha : 0 ≤ a) (hb : 1 ≤ b) : 0 ≤ qUp a b ∧ qUp a b ≤ a := by
  unfold qUp
  refine ⟨Int.ediv_nonneg (by omega) (by omega), ?_⟩
  by_cases h : a = 0
  · subst h
    rw [Int.ediv_eq_zero_of_lt (by omega) (by omega)]; omega
  · have h1 : (a + b - 1) ≤ a * b := by
      have := Int.mul_nonneg (show 0 ≤ a - 1 by omega) (show 0 ≤ b - 1 by omega)
      have e : (a - 1) * (b - 1) = a * b - a - b + 1 := by grind
      omega
    have h2 := Int.ediv_le_ediv (show 0 < b by omega) h1
    rwa [Int.mul_ediv_cancel _ (by omega)] at h2
theorem qUp_pos {a b : Int} (ha : 1 ≤ a) (hb : 1 ≤ b) : 1 ≤ qUp a b := by
  unfold qUp
  have h2 := Int.ediv_le_ediv (show 0 < b by omega) (show b ≤ a + b - 1 by omega)
  rwa [Int.ediv_self (by omega)] at h2

def ckB (L D : Int) : Bool := inB 0 1000 L && inB 1 100 D
theorem ckB_iff {L D : Int} : ckB L D = true ↔ (0 ≤ L ∧ L ≤ 1000) ∧ 1 ≤ D ∧ D ≤ 100 := by unfold ckB; rw [Bool.and_eq_true, inB_iff, inB_iff]
def tmB (t : Int) : Bool := inB 0 10000 t
theorem bool_nt {b : Bool} (h : ¬ b = true) : b = false := by simpa using h

/-- The time until nothing is left. -/
def timF (D : Int) : Nat → Int → Nat
  | 0, _ => 0
  | f + 1, L => if L ≤ 0 then 0 else timF D f (L - qUp L D) + 1
def tim (D L : Int) : Nat := timF D L.toNat L
theorem timF_any {D : Int} (hD : 1 ≤ D) : ∀ (f g : Nat) (L : Int), 0 ≤ L → L.toNat ≤ f → L.toNat ≤ g → timF D f L = timF D g L := by
  intro f
  induction f with
  | zero =>
    intro g L h0 h1 h2
    cases g with
    | zero => rfl
    | succ g => show 0 = (if L ≤ 0 then 0 else _); rw [if_pos (by omega)]
  | succ f ih =>
    intro g L h0 h1 h2
    cases g with
    | zero => show (if L ≤ 0 then 0 else _) = 0; rw [if_pos (by omega)]
    | succ g =>
      show (if L ≤ 0 then 0 else timF D f (L - qUp L D) + 1) = (if L ≤ 0 then 0 else timF D g (L - qUp L D) + 1)
      by_cases hL : L ≤ 0
      · rw [if_pos hL, if_pos hL]
      · rw [if_neg hL, if_neg hL]
        have q1 := qUp_bd h0 hD
        have q2 := qUp_pos (a := L) (by omega) hD
        rw [ih g (L - qUp L D) (by omega) (by omega) (by omega)]
theorem tim_zero (D : Int) : tim D 0 = 0 := rfl
theorem tim_step {D L : Int} (hD : 1 ≤ D) (hL : 1 ≤ L) : tim D L = tim D (L - qUp L D) + 1 := by
  have q1 := qUp_bd (a := L) (by omega) hD
  have q2 := qUp_pos (a := L) (by omega) hD
  obtain ⟨m, hm⟩ : ∃ m, L.toNat = m + 1 := ⟨L.toNat - 1, by omega⟩
  unfold tim
  rw [hm]
  show (if L ≤ 0 then 0 else timF D m (L - qUp L D) + 1) = _
  rw [if_neg (by omega), timF_any hD m (L - qUp L D).toNat _ (by omega) (by omega) (Nat.le_refl _)]
theorem tim_le {D : Int} (hD : 1 ≤ D) : ∀ (n : Nat) (L : Int), 0 ≤ L → L ≤ n → tim D L ≤ n := by
  intro n
  induction n with
  | zero => intro L h0 h1; rw [show L = 0 by omega, tim_zero]; omega
  | succ n ih =>
    intro L h0 h1
    by_cases hL : L = 0
    · rw [hL, tim_zero]; omega
    · have q1 := qUp_bd (a := L) (by omega) hD
      have q2 := qUp_pos (a := L) (by omega) hD
      rw [tim_step hD (by omega)]
      have := ih (L - qUp L D) (by omega) (by omega)
      omega

/-- The least level of at most 1000 that takes t ticks. -/
def llF (D t : Int) : Option Nat := (List.range 1001).find? fun L => decide (t ≤ (tim D L : Int))
def llB (D t : Int) : Bool := (inB 1 100 D && tmB t) && (llF D t).isSome
def llM (D t : Int) : Int := if llB D t then ((llF D t).getD 0 : Nat) else 0
theorem llF_some {D t : Int} {k : Nat} (hk : k ≤ 1000) (h : t ≤ (tim D k : Int)) (hn : ∀ j : Nat, j < k → ¬ t ≤ (tim D j : Int)) : llF D t = some k := by
  unfold llF
  rw [List.find?_range_eq_some]
  exact ⟨by simpa using h, by simp; omega, fun j hj => by simpa using hn j hj⟩
theorem llF_none {D t : Int} (hn : ∀ j : Nat, j ≤ 1000 → ¬ t ≤ (tim D j : Int)) : llF D t = none := by
  unfold llF
  rw [List.find?_eq_none]
  intro j hj
  have := List.mem_range.1 hj
  simpa using hn j (by omega)
theorem ll_yes {D t : Int} {k : Nat} (hD : inB 1 100 D = true) (ht : tmB t = true) (hk : k ≤ 1000) (h : t ≤ (tim D k : Int)) (hn : ∀ j : Nat, j < k → (tim D j : Int) < t) : llM D t = k ∧ llB D t = true := by
  have e := llF_some hk h (fun j hj => by have := hn j hj; omega)
  have b : llB D t = true := by unfold llB; rw [hD, ht, e]; rfl
  refine ⟨?_, b⟩
  unfold llM
  rw [if_pos b, e]; rfl
theorem ll_no {D t : Int} (hn : ∀ j : Nat, j ≤ 1000 → (tim D j : Int) < t) : llM D t = 0 ∧ llB D t = false := by
  have e := llF_none (D := D) (t := t) (fun j hj => by have := hn j hj; omega)
  have b : llB D t = false := by unfold llB; rw [e]; simp
  refine ⟨?_, b⟩
  unfold llM
  rw [b]; rfl
theorem ll_bad {D t : Int} (h : (inB 1 100 D && tmB t) = false) : llM D t = 0 ∧ llB D t = false := by
  have b : llB D t = false := by unfold llB; rw [h]; rfl
  refine ⟨?_, b⟩
  unfold llM
  rw [b]; rfl

/-- Wheels. -/
def whB (S R V : Int) : Bool := inB 2 60 S && inB 1 60 R && inB 1 60 V
theorem whB_iff {S R V : Int} : whB S R V = true ↔ ((2 ≤ S ∧ S ≤ 60) ∧ 1 ≤ R ∧ R ≤ 60) ∧ 1 ≤ V ∧ V ≤ 60 := by unfold whB; rw [Bool.and_eq_true, Bool.and_eq_true, inB_iff, inB_iff, inB_iff]
def fil (R V : Int) : Int := qUp R V
theorem fil_bd {R V : Int} (hR : 1 ≤ R ∧ R ≤ 60) (hV : 1 ≤ V) : 1 ≤ fil R V ∧ fil R V ≤ 60 := by
  have q1 := qUp_bd (a := R) (by omega) hV
  have q2 := qUp_pos (a := R) (by omega) hV
  unfold fil; omega
def waB (S R V t : Int) : Bool := whB S R V && tmB t
theorem waB_iff {S R V t : Int} : waB S R V t = true ↔ whB S R V = true ∧ 0 ≤ t ∧ t ≤ 10000 := by unfold waB tmB; rw [Bool.and_eq_true, inB_iff]
def wa1 (S R V t : Int) : Int := if waB S R V t then t / fil R V % S else 0
def wa2 (S R V t : Int) : Int := if waB S R V t then t % fil R V * V else 0
def ttW (S R V : Int) : Int := if whB S R V then S * fil R V else 0
def sbM (S R V t : Int) : Int := if waB S R V t then t / fil R V * (fil R V * V - R) else 0

/-- How many there are: the first at a, each s behind the one before. -/
def tosN (s t a : Int) : Nat := if a ≤ t then ((t - a) / s + 1).toNat else 0
def tosL (s a : Int) (n : Nat) : List Int := (List.range n).map fun j : Nat => a + (j : Int) * s
theorem tosL_length (s a : Int) (n : Nat) : (tosL s a n).length = n := by simp [tosL]
theorem tosL_succ (s a : Int) (n : Nat) : tosL s a (n + 1) = tosL s a n ++ [a + n * s] := by simp [tosL, List.range_succ]
theorem tosN_lt {s t a : Int} (hs : 1 ≤ s) {k : Nat} : k < tosN s t a ↔ a + k * s ≤ t := by
  unfold tosN
  by_cases h : a ≤ t
  · rw [if_pos h]
    have h0 := Int.ediv_nonneg (show 0 ≤ t - a by omega) (show 0 ≤ s by omega)
    constructor
    · intro hk
      have h1 : (k : Int) ≤ (t - a) / s := by omega
      have h2 := Int.mul_le_mul_of_nonneg_right h1 (show 0 ≤ s by omega)
      have h3 := Int.ediv_mul_le (t - a) (show s ≠ 0 by omega)
      omega
    · intro hk
      have h1 : (k : Int) ≤ (t - a) / s := by rw [Int.le_ediv_iff_mul_le (by omega)]; omega
      omega
  · rw [if_neg h]
    constructor
    · intro hk; omega
    · intro hk
      have := Int.mul_nonneg (show (0 : Int) ≤ k by omega) (show 0 ≤ s by omega)
      omega
theorem tosN_le {s t a : Int} (hs : 1 ≤ s) (ha : 1 ≤ a) (ht : t ≤ 10000) : tosN s t a ≤ 10000 := by
  rcases Nat.lt_or_ge 10000 (tosN s t a) with h | h
  · have := (tosN_lt hs (k := 10000)).1 h
    have h2 := Int.mul_le_mul_of_nonneg_left (show (1 : Int) ≤ s from hs) (show (0 : Int) ≤ 10000 by omega)
    omega
  · exact h
def toB (S R V k t : Int) : Bool := (whB S R V && inB 0 (S - 1) k) && tmB t
theorem toB_iff {S R V k t : Int} : toB S R V k t = true ↔ (whB S R V = true ∧ 0 ≤ k ∧ k ≤ S - 1) ∧ 0 ≤ t ∧ t ≤ 10000 := by unfold toB tmB; rw [Bool.and_eq_true, Bool.and_eq_true, inB_iff, inB_iff]
def toN (S R V k t : Int) : Nat := tosN (S * fil R V) t ((k + 1) * fil R V)
def tosB (S R V k t : Int) : Bool := toB S R V k t && decide (toN S R V k t ≤ 500)
def tosM (S R V k t : Int) : List Int := if tosB S R V k t then tosL (S * fil R V) ((k + 1) * fil R V) (toN S R V k t) else []
theorem tosM_small (S R V k t : Int) : (tosM S R V k t).length ≤ 1048576 := by
  unfold tosM
  split
  · rename_i h
    unfold tosB at h
    rw [Bool.and_eq_true, decide_eq_true_eq] at h
    rw [tosL_length]; omega
  · simp
theorem tosM_no {S R V k t : Int} (h : tosB S R V k t = false) : tosM S R V k t = [] := by unfold tosM; rw [h]; rfl
theorem tosM_yes {S R V k t : Int} (h : tosB S R V k t = true) : tosM S R V k t = tosL (S * fil R V) ((k + 1) * fil R V) (toN S R V k t) := by unfold tosM; rw [if_pos h]
end Go.Proofs.Ytnahlemchajfdaa
