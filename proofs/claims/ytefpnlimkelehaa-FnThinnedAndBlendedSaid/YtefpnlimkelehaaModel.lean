/- What chapter 1's functions come to, on lists of integers. -/
import Derived.Test.YtefpnlimkelehaaHelpV
namespace Go.Proofs.Ytefpnlimkelehaa
open Go.RowKit

def allB (lo hi : Int) (l : List Int) : Bool := l.all (inB lo hi)
theorem allB_iff {lo hi : Int} {l : List Int} : allB lo hi l = true ↔ ∀ j, j < l.length → lo ≤ l[j]?.getD 0 ∧ l[j]?.getD 0 ≤ hi := by
  unfold allB
  rw [List.all_eq_true]
  constructor
  · intro h j hj
    have := h l[j] (List.getElem_mem hj)
    rw [inB_iff] at this
    simpa [List.getElem?_eq_getElem hj] using this
  · intro h x hx
    obtain ⟨j, hj, rfl⟩ := List.getElem_of_mem hx
    rw [inB_iff]
    simpa [List.getElem?_eq_getElem hj] using h j hj

def Good (S H : List Int) : Prop :=
  (1 ≤ S.length ∧ S.length ≤ 5) ∧ H.length = S.length ∧ (∀ j, j < S.length → 1 ≤ S[j]?.getD 0 ∧ S[j]?.getD 0 ≤ 60) ∧ ∀ j, j < S.length → 0 ≤ H[j]?.getD 0 ∧ H[j]?.getD 0 ≤ S[j]?.getD 0
instance (S H : List Int) : Decidable (Good S H) := by unfold Good; infer_instance
def goodB (S H : List Int) : Bool := decide (Good S H)
theorem goodB_iff {S H : List Int} : goodB S H = true ↔ Good S H := by simp [goodB]
theorem goodB_false {S H : List Int} : goodB S H = false ↔ ¬ Good S H := by simp [goodB]

/-- One place of good vessels. -/
theorem Good.at {S H : List Int} (h : Good S H) {j : Nat} (hj : j < S.length) : 1 ≤ S[j]?.getD 0 ∧ S[j]?.getD 0 ≤ 60 ∧ 0 ≤ H[j]?.getD 0 ∧ H[j]?.getD 0 ≤ S[j]?.getD 0 :=
  ⟨(h.2.2.1 j hj).1, (h.2.2.1 j hj).2, (h.2.2.2 j hj).1, (h.2.2.2 j hj).2⟩

def sumOf (l : List Int) : Int := l.foldl (· + ·) 0
def MoveOk (n : Nat) (f t : Int) : Prop := (-1 ≤ f ∧ f < n) ∧ (-1 ≤ t ∧ t < n) ∧ f ≠ t
instance (n : Nat) (f t : Int) : Decidable (MoveOk n f t) := by unfold MoveOk; infer_instance
def moveB (n : Nat) (f t : Int) : Bool := decide (MoveOk n f t)
theorem moveB_iff {n : Nat} {f t : Int} : moveB n f t = true ↔ MoveOk n f t := by simp [moveB]
theorem moveB_false {n : Nat} {f t : Int} : moveB n f t = false ↔ ¬ MoveOk n f t := by simp [moveB]

/-- The amount of a move. -/
def amt (S H : List Int) (f t : Int) : Int :=
  if f = -1 then S[t.toNat]?.getD 0 - H[t.toNat]?.getD 0
  else if t = -1 then H[f.toNat]?.getD 0
  else min (H[f.toNat]?.getD 0) (S[t.toNat]?.getD 0 - H[t.toNat]?.getD 0)
/-- What is held behind a move. -/
def poured (S H : List Int) (f t : Int) : List Int :=
  let a := amt S H f t
  let H1 := if f = -1 then H else H.set f.toNat (H[f.toNat]?.getD 0 - a)
  if t = -1 then H1 else H1.set t.toNat (H1[t.toNat]?.getD 0 + a)

def oneB (S H : List Int) (i : Int) : Bool := goodB S H && inB 0 ((S.length : Int) - 1) i
theorem oneB_iff {S H : List Int} {i : Int} : oneB S H i = true ↔ Good S H ∧ ∃ k : Nat, i = k ∧ k < S.length := by
  unfold oneB
  rw [Bool.and_eq_true, goodB_iff, inB_iff]
  constructor
  · rintro ⟨h, h0, h1⟩
    exact ⟨h, i.toNat, by omega, by omega⟩
  · rintro ⟨h, k, rfl, h1⟩
    exact ⟨h, by omega, by omega⟩
def sumM (S H : List Int) : Int × Bool := if goodB S H = true then (sumOf H, true) else (0, false)
def roomM (S H : List Int) (i : Int) : Int × Bool := if oneB S H i = true then (S[i.toNat]?.getD 0 - H[i.toNat]?.getD 0, true) else (0, false)
def isMoveM (S H : List Int) (f t : Int) : Bool × Bool := if goodB S H = true then (moveB S.length f t, true) else (false, false)
def askedB (S H : List Int) (f t : Int) : Bool := goodB S H && moveB S.length f t
theorem askedB_iff {S H : List Int} {f t : Int} : askedB S H f t = true ↔ Good S H ∧ MoveOk S.length f t := by
  unfold askedB
  rw [Bool.and_eq_true, goodB_iff, moveB_iff]
def amountM (S H : List Int) (f t : Int) : Int × Bool := if askedB S H f t = true then (amt S H f t, true) else (0, false)

theorem MoveOk.parts {n : Nat} {f t : Int} (h : MoveOk n f t) :
    (f = -1 ∧ ∃ j : Nat, t = j ∧ j < n) ∨ (t = -1 ∧ ∃ i : Nat, f = i ∧ i < n) ∨ ∃ i j : Nat, f = i ∧ t = j ∧ i < n ∧ j < n ∧ i ≠ j := by
  obtain ⟨⟨a, b⟩, ⟨c, d⟩, e⟩ := h
  by_cases hf : f = -1
  · exact .inl ⟨hf, t.toNat, by omega, by omega⟩
  · by_cases ht : t = -1
    · exact .inr (.inl ⟨ht, f.toNat, by omega, by omega⟩)
    · exact .inr (.inr ⟨f.toNat, t.toNat, by omega, by omega, by omega, by omega, by omega⟩)
theorem amt_in (S H : List Int) (j : Nat) : amt S H (-1) j = S[j]?.getD 0 - H[j]?.getD 0 := by simp [amt]
theorem amt_out (S H : List Int) (i : Nat) : amt S H i (-1) = H[i]?.getD 0 := by
  unfold amt; rw [if_neg (by omega), if_pos rfl]; simp
theorem amt_mid (S H : List Int) (i j : Nat) : amt S H i j = min (H[i]?.getD 0) (S[j]?.getD 0 - H[j]?.getD 0) := by
  unfold amt; rw [if_neg (by omega), if_neg (by omega)]; simp
theorem amt_bd {S H : List Int} {f t : Int} (hg : Good S H) (hm : MoveOk S.length f t) : 0 ≤ amt S H f t ∧ amt S H f t ≤ 60 := by
  rcases hm.parts with ⟨rfl, j, rfl, hj⟩ | ⟨rfl, i, rfl, hi⟩ | ⟨i, j, rfl, rfl, hi, hj, _⟩
  · rw [amt_in]; have := hg.at hj; omega
  · rw [amt_out]; have := hg.at hi; omega
  · rw [amt_mid]; have := hg.at hi; have := hg.at hj; omega

theorem poured_in (S H : List Int) (j : Nat) : poured S H (-1) j = H.set j (H[j]?.getD 0 + amt S H (-1) j) := by
  unfold poured
  simp only [if_true]
  rw [if_neg (by omega), Int.toNat_natCast]
theorem poured_out (S H : List Int) (i : Nat) : poured S H i (-1) = H.set i (H[i]?.getD 0 - amt S H i (-1)) := by
  unfold poured
  simp only [if_true]
  rw [if_neg (by omega), Int.toNat_natCast]
theorem poured_mid (S H : List Int) (i j : Nat) (hij : i ≠ j) : poured S H i j = (H.set i (H[i]?.getD 0 - amt S H i j)).set j (H[j]?.getD 0 + amt S H i j) := by
  unfold poured
  simp only
  rw [if_neg (by omega), if_neg (by omega)]
  simp only [Int.toNat_natCast]
  rw [List.getElem?_set, if_neg hij]
end Go.Proofs.Ytefpnlimkelehaa
