/- All moves on: a grid of pairs, row by row. Nothing here speaks of the program. -/
import Derived.Test.YtilepckgcgdjgaaMoves
import Derived.Test.YtilepckgcgdjgaaModel
namespace Go.Proofs.Ytilepckgcgdjgaa
open Go.RowKit

def gridRow (P : Int → Int → Bool) (f lo : Int) (k : Nat) : List (Int × Int) := ((List.range k).map fun (j : Nat) => (f, lo + (j : Int))).filter fun p => P p.1 p.2
def gridUp (P : Int → Int → Bool) (lo : Int) (N i : Nat) : List (Int × Int) := (List.range i).flatMap fun (a : Nat) => gridRow P (lo + (a : Int)) lo N
def grid (P : Int → Int → Bool) (lo : Int) (N i k : Nat) : List (Int × Int) := gridUp P lo N i ++ gridRow P (lo + (i : Int)) lo k
theorem grid_zero (P : Int → Int → Bool) (lo : Int) (N i : Nat) : grid P lo N i 0 = gridUp P lo N i := by simp [grid, gridRow]
theorem grid_full (P : Int → Int → Bool) (lo : Int) (N i : Nat) : grid P lo N i N = gridUp P lo N (i + 1) := by
  simp [grid, gridUp, List.range_succ, List.flatMap_append]
theorem grid_yes {P : Int → Int → Bool} {lo : Int} {N i k : Nat} {f t : Int} (hf : f = lo + (i : Int)) (ht : t = lo + (k : Int)) (h : P f t = true) : grid P lo N i (k + 1) = grid P lo N i k ++ [(f, t)] := by
  subst hf ht
  simp [grid, gridRow, List.range_succ, List.filter_append, h]
theorem grid_no {P : Int → Int → Bool} {lo : Int} {N i k : Nat} {f t : Int} (hf : f = lo + (i : Int)) (ht : t = lo + (k : Int)) (h : P f t = false) : grid P lo N i (k + 1) = grid P lo N i k := by
  subst hf ht
  simp [grid, gridRow, List.range_succ, List.filter_append, h]
theorem gridRow_length (P : Int → Int → Bool) (f lo : Int) (k : Nat) : (gridRow P f lo k).length ≤ k := by
  have := List.length_filter_le (fun p : Int × Int => P p.1 p.2) ((List.range k).map fun (j : Nat) => (f, lo + (j : Int)))
  simpa [gridRow] using this
theorem gridUp_length (P : Int → Int → Bool) (lo : Int) (N i : Nat) : (gridUp P lo N i).length ≤ i * N := by
  induction i with
  | zero => simp [gridUp]
  | succ i ih =>
    have := gridRow_length P (lo + (i : Int)) lo N
    rw [← grid_full]
    simp only [grid, List.length_append]
    rw [Nat.succ_mul]
    omega
theorem grid_small (P : Int → Int → Bool) (lo : Int) {N i k : Nat} (hN : N ≤ 6) (hi : i ≤ N) (hk : k ≤ N) : (grid P lo N i k).length ≤ 42 := by
  have h1 := gridUp_length P lo N i
  have h2 := gridRow_length P (lo + (i : Int)) lo k
  have h3 : i * N ≤ 6 * 6 := Nat.mul_le_mul (by omega) hN
  simp only [grid, List.length_append]
  omega

theorem flatMap_same {α β : Type} {f g : α → List β} {l : List α} (h : ∀ a, a ∈ l → f a = g a) : l.flatMap f = l.flatMap g := by
  induction l with
  | nil => rfl
  | cons x l ih =>
    rw [List.flatMap_cons, List.flatMap_cons, h x List.mem_cons_self, ih fun a ha => h a (List.mem_cons_of_mem _ ha)]

/-- Whether a pair is a move with an amount, by what is asked. -/
def onB (S H : List Int) (closed : Bool) (f t : Int) : Bool := moveB S.length f t && !(closed && (decide (f < 0) || decide (t < 0))) && !decide (amt S H f t = 0)
def onL (S H : List Int) (closed : Bool) : List (Int × Int) := gridUp (onB S H closed) (-1) (S.length + 1) (S.length + 1)
/-- Whether a pair has two ends. -/
def twoB (f t : Int) : Bool := decide (f ≠ t)
def allLo (closed : Bool) : Int := if closed = true then 0 else -1
def allN (n : Nat) (closed : Bool) : Nat := if closed = true then n else n + 1
def allL (n : Nat) (closed : Bool) : List (Int × Int) := gridUp twoB (allLo closed) (allN n closed) (allN n closed)
def amtB (S H : List Int) (p : Int × Int) : Bool := !decide (amt S H p.1 p.2 = 0)

theorem gridRow_filter (P : Int → Int → Bool) (q : Int × Int → Bool) (f lo : Int) (k : Nat) : (gridRow P f lo k).filter q = gridRow (fun a b => P a b && q (a, b)) f lo k := by
  unfold gridRow
  rw [List.filter_filter]
  congr 1
  funext p
  exact Bool.and_comm _ _
theorem gridRow_congr {P Q : Int → Int → Bool} {f lo : Int} {k : Nat} (h : ∀ j, j < k → P f (lo + (j : Int)) = Q f (lo + (j : Int))) : gridRow P f lo k = gridRow Q f lo k := by
  unfold gridRow
  apply List.filter_congr
  intro p hp
  rw [List.mem_map] at hp
  obtain ⟨j, hj, rfl⟩ := hp
  exact h j (List.mem_range.1 hj)
theorem gridRow_shift {P : Int → Int → Bool} {f lo : Int} {k : Nat} (h : P f lo = false) : gridRow P f lo (k + 1) = gridRow P f (lo + 1) k := by
  unfold gridRow
  rw [List.range_succ_eq_map, List.map_cons, List.filter_cons]
  simp only [Int.natCast_zero, Int.add_zero]
  rw [if_neg (by simp [h]), List.map_map]
  congr 1
  apply List.map_congr_left
  intro j _
  simp only [Function.comp, Prod.mk.injEq, true_and]
  omega
theorem onB_open (S H : List Int) {f t : Int} (h1 : -1 ≤ f) (h2 : f < S.length) (h3 : -1 ≤ t) (h4 : t < S.length) : onB S H false f t = (twoB f t && amtB S H (f, t)) := by
  have : moveB S.length f t = twoB f t := by
    rw [Bool.eq_iff_iff, moveB_iff]
    simp [twoB, MoveOk, h1, h2, h3, h4]
  simp [onB, amtB, this]
theorem onB_closed (S H : List Int) {f t : Int} (h1 : 0 ≤ f) (h2 : f < S.length) (h3 : 0 ≤ t) (h4 : t < S.length) : onB S H true f t = (twoB f t && amtB S H (f, t)) := by
  have : moveB S.length f t = twoB f t := by
    rw [Bool.eq_iff_iff, moveB_iff]
    simp [twoB, MoveOk, h2, h4, show -1 ≤ f by omega, show -1 ≤ t by omega]
  simp [onB, amtB, this, show ¬ f < 0 by omega, show ¬ t < 0 by omega]
theorem all_on (S H : List Int) (closed : Bool) : (allL S.length closed).filter (amtB S H) = onL S H closed := by
  cases closed with
  | false =>
    show (gridUp twoB (-1) (S.length + 1) (S.length + 1)).filter (amtB S H) = gridUp (onB S H false) (-1) (S.length + 1) (S.length + 1)
    unfold gridUp
    rw [List.filter_flatMap]
    apply flatMap_same
    intro a ha
    have ha := List.mem_range.1 ha
    rw [gridRow_filter]
    apply gridRow_congr
    intro j hj
    exact (onB_open S H (by omega) (by omega) (by omega) (by omega)).symm
  | true =>
    show (gridUp twoB 0 S.length S.length).filter (amtB S H) = gridUp (onB S H true) (-1) (S.length + 1) (S.length + 1)
    unfold gridUp
    rw [List.filter_flatMap, List.range_succ_eq_map, List.flatMap_cons]
    have e0 : gridRow (onB S H true) (-1 + ((0 : Nat) : Int)) (-1) (S.length + 1) = [] := by
      unfold gridRow
      rw [List.filter_eq_nil_iff]
      intro p hp
      rw [List.mem_map] at hp
      obtain ⟨j, _, rfl⟩ := hp
      simp [onB]
    rw [e0, List.nil_append, List.flatMap_map]
    apply flatMap_same
    intro a ha
    have ha := List.mem_range.1 ha
    rw [gridRow_filter, gridRow_shift (by simp [onB])]
    have e1 : (-1 : Int) + ((a + 1 : Nat) : Int) = 0 + (a : Int) := by omega
    show _ = gridRow _ (-1 + ((a + 1 : Nat) : Int)) (-1 + 1) S.length
    rw [e1]
    show _ = gridRow _ (0 + (a : Int)) 0 S.length
    apply gridRow_congr
    intro j hj
    exact (onB_closed S H (by omega) (by omega) (by omega) (by omega)).symm

def onM (S H : List Int) (closed : Bool) : List (Int × Int) × Bool := if goodB S H = true then (onL S H closed, true) else ([], false)
theorem onM_no {S H : List Int} (closed : Bool) (h : goodB S H = false) : onM S H closed = ([], false) := by simp [onM, h]
theorem onM_yes {S H : List Int} (closed : Bool) (h : goodB S H = true) : onM S H closed = (onL S H closed, true) := by simp [onM, h]
theorem onM_small (S H : List Int) (closed : Bool) : (onM S H closed).1.length ≤ 1048576 := by
  by_cases h : goodB S H = true
  · have hg := goodB_iff.1 h
    have h1 := hg.1
    rw [onM_yes _ h]
    have := grid_small (onB S H closed) (-1) (N := S.length + 1) (i := S.length + 1) (k := 0) (by omega) (by omega) (by omega)
    rw [grid_zero] at this
    show (onL S H closed).length ≤ _
    unfold onL
    omega
  · rw [onM_no _ (by simpa using h)]
    exact by simp

/-- A slice of moves that a call returns, of its own make, with a bool. -/
def RetP (w : World) (l : List (Int × Int)) (ok : Bool) (e : Ending) (w' : World) : Prop :=
  ∃ sa n sc, e = .returned (.tuple #[.slice sa n sc, .bool ok]) ∧ OwnP w' w.heap.size w'.heap.size sa n sc l ∧ New w w'
theorem New.grown {w0 w w' : World} {base : Nat} {e : TypeId} {size n : Nat} {v : Value} {xs : List Value} (h : New w0 w) (ho : w.ownsRow base e size v n xs) (hb : w0.heap.size ≤ base) (hg : w.grownBy w' v.ownBlock) : New w0 w' :=
  Below.trans h ⟨hg.os, hg.tape, hg.output, hg.size, fun k hk => hg.block k (by have := h.size; omega) (fun e => by have := (ho.lt k e.symm).1; omega)⟩
end Go.Proofs.Ytilepckgcgdjgaa
