/- The least Size with which a basin never spills: the numbers. -/
import Derived.Test.YtchnnbkaiagpgaaWeir
namespace Go.Proofs.Ytchnnbkaiagpgaa
open Go.RowKit

def setS (l : List (Int × Int × Int)) (i : Nat) (s : Int) : List (Int × Int × Int) := l.set i (s, (l[i]?.getD (0, 0, 0)).2.1, (l[i]?.getD (0, 0, 0)).2.2)
theorem setS_length (l : List (Int × Int × Int)) (i : Nat) (s : Int) : (setS l i s).length = l.length := by simp [setS]
theorem setS_same (l : List (Int × Int × Int)) (i : Nat) (s : Int) (h : i < l.length) : (setS l i s)[i]?.getD (0, 0, 0) = (s, (l[i]?.getD (0, 0, 0)).2.1, (l[i]?.getD (0, 0, 0)).2.2) := by simp [setS, h]
theorem setS_other (l : List (Int × Int × Int)) (i j : Nat) (s : Int) (h : j ≠ i) : (setS l i s)[j]?.getD (0, 0, 0) = l[j]?.getD (0, 0, 0) := by
  unfold setS
  rw [List.getElem?_set_ne (Ne.symm h)]
theorem setS_twice (l : List (Int × Int × Int)) (i : Nat) (s u : Int) : setS (setS l i u) i s = setS l i s := by
  by_cases h : i < l.length
  · have e := setS_same l i u h
    unfold setS at e ⊢
    rw [e]
    simp
  · unfold setS
    rw [List.set_eq_of_length_le (by simp; omega), List.set_eq_of_length_le (by omega), List.set_eq_of_length_le (by omega)]
theorem setS_ok {l : List (Int × Int × Int)} (hl : RowOk l) (i : Nat) (s : Int) (hi : i < l.length) (h1 : 1 ≤ s) (h2 : s ≤ 1000) (h3 : (l[i]?.getD (0, 0, 0)).2.2 ≤ s) : RowOk (setS l i s) := by
  refine ⟨by rw [setS_length]; exact hl.1, by rw [setS_length]; exact hl.2.1, fun j hj => ?_⟩
  rw [setS_length] at hj
  by_cases e : j = i
  · subst e
    rw [setS_same _ _ _ hi]
    have := hl.2.2 j hj
    unfold BasOk at this ⊢
    simp only
    omega
  · rw [setS_other _ _ _ _ e]
    exact hl.2.2 j hj
/-- How much the basin i has at the tick, ahead of spilling. -/
def hadI (l : List (Int × Int × Int)) (x : Int) (i : Nat) : Int := (l[i]?.getD (0, 0, 0)).2.2 + inK l x i
theorem inK_set_low (R : List (Int × Int × Int)) (x : Int) (i : Nat) (s : Int) (j : Nat) (hj : j ≤ i) : inK (setS R i s) x j = inK R x j := by
  induction j with
  | zero => rfl
  | succ j ih =>
    unfold inK
    rw [ih (by omega), setS_other _ _ _ _ (by omega)]
theorem inK_set (R : List (Int × Int × Int)) (x : Int) (i : Nat) (s : Int) (hi : i < R.length) (h1 : hadI R x i ≤ s) (h2 : hadI R x i ≤ (R[i]?.getD (0, 0, 0)).1) (j : Nat) : inK (setS R i s) x j = inK R x j := by
  induction j with
  | zero => rfl
  | succ j ih =>
    by_cases e : j = i
    · subst e
      unfold inK
      rw [ih, setS_same _ _ _ hi]
      unfold hadI at h1 h2
      unfold ouB ruB spB
      simp only
      omega
    · unfold inK
      rw [ih, setS_other _ _ _ _ e]
theorem tick_set (R : List (Int × Int × Int)) (x : Int) (i : Nat) (s : Int) (hi : i < R.length) (h1 : hadI R x i ≤ s) (h2 : hadI R x i ≤ (R[i]?.getD (0, 0, 0)).1) : tickL (setS R i s) x = setS (tickL R x) i s := by
  have ht : i < (tickL R x).length := by rw [tickL_length]; exact hi
  apply List.ext_getElem (by rw [tickL_length, setS_length, setS_length, tickL_length])
  intro j a b
  have e1 : (tickL (setS R i s) x)[j] = (tickL (setS R i s) x)[j]?.getD (0, 0, 0) := by simp [List.getElem?_eq_getElem a]
  have e2 : (setS (tickL R x) i s)[j] = (setS (tickL R x) i s)[j]?.getD (0, 0, 0) := by simp [List.getElem?_eq_getElem b]
  have hj : j < (setS R i s).length := by rw [tickL_length] at a; exact a
  have hj' : j < R.length := by rw [setS_length] at hj; exact hj
  rw [e1, e2, tickL_get _ _ _ hj, inK_set R x i s hi h1 h2]
  by_cases e : j = i
  · subst e
    rw [setS_same _ _ _ hi, setS_same _ _ _ ht, tickL_get _ _ _ hi]
    unfold hadI at h1 h2
    unfold stB leB ruB spB
    simp only [Prod.mk.injEq, true_and]
    omega
  · rw [setS_other _ _ _ _ e, setS_other _ _ _ _ e, tickL_get _ _ _ hj']
theorem rowK_size (l : List (Int × Int × Int)) (xs : List Int) (i k : Nat) (hi : i < l.length) : ((rowK l xs k)[i]?.getD (0, 0, 0)).1 = (l[i]?.getD (0, 0, 0)).1 := by
  induction k with
  | zero => rfl
  | succ k ih =>
    show ((tickL (rowK l xs k) (xs[k]?.getD 0))[i]?.getD (0, 0, 0)).1 = _
    rw [tickL_get _ _ _ (by rw [rowK_length]; exact hi)]
    exact ih
def hadT (l : List (Int × Int × Int)) (xs : List Int) (i t : Nat) : Int := hadI (rowK l xs t) (xs[t]?.getD 0) i
theorem rowK_set (l : List (Int × Int × Int)) (xs : List Int) (i : Nat) (s : Int) (k : Nat) (hi : i < l.length) (h2 : s ≤ 1000) (h : ∀ t, t < k → hadT (setS l i 1000) xs i t ≤ s) : rowK (setS l i s) xs k = setS (rowK (setS l i 1000) xs k) i s := by
  have hl : i < (setS l i 1000).length := by rw [setS_length]; exact hi
  induction k with
  | zero => exact (setS_twice l i s 1000).symm
  | succ k ih =>
    show tickL (rowK (setS l i s) xs k) (xs[k]?.getD 0) = setS (tickL (rowK (setS l i 1000) xs k) (xs[k]?.getD 0)) i s
    rw [ih (fun t ht => h t (by omega))]
    have hk := h k (by omega)
    unfold hadT at hk
    refine tick_set _ _ _ _ (by rw [rowK_length]; exact hl) hk ?_
    rw [rowK_size _ _ _ _ hl, setS_same _ _ _ hi]
    simp only
    omega
theorem spAt_set (l : List (Int × Int × Int)) (xs : List Int) (i : Nat) (s : Int) (k : Nat) (hi : i < l.length) (h2 : s ≤ 1000) (h : ∀ t, t < k → hadT (setS l i 1000) xs i t ≤ s) : spAt (setS l i s) xs k i = max 0 (hadT (setS l i 1000) xs i k - s) := by
  unfold spAt hadT hadI
  rw [rowK_set l xs i s k hi h2 h, inK_set_low _ _ _ _ _ (Nat.le_refl _), setS_same _ _ _ (by rw [rowK_length, setS_length]; exact hi)]
  rfl
/-- The greatest of 1, what is held, and what the basin has at the first k ticks with the greatest Size. -/
def pkI (l : List (Int × Int × Int)) (xs : List Int) (i : Nat) : Nat → Int
  | 0 => max 1 (l[i]?.getD (0, 0, 0)).2.2
  | k + 1 => max (pkI l xs i k) (hadT (setS l i 1000) xs i k)
theorem pkI_low (l : List (Int × Int × Int)) (xs : List Int) (i k : Nat) : pkI l xs i 0 ≤ pkI l xs i k := by
  induction k with
  | zero => exact Int.le_refl _
  | succ k ih =>
    show pkI l xs i 0 ≤ max (pkI l xs i k) (hadT (setS l i 1000) xs i k)
    omega
theorem pkI_le {l : List (Int × Int × Int)} {xs : List Int} {i k : Nat} {s : Int} : pkI l xs i k ≤ s ↔ pkI l xs i 0 ≤ s ∧ ∀ t, t < k → hadT (setS l i 1000) xs i t ≤ s := by
  induction k with
  | zero => exact ⟨fun h => ⟨h, fun t ht => absurd ht (by omega)⟩, fun h => h.1⟩
  | succ k ih =>
    constructor
    · intro h
      unfold pkI at h
      have a := ih.1 (by omega)
      refine ⟨a.1, fun t ht => ?_⟩
      by_cases e : t = k
      · subst e; omega
      · exact a.2 t (by omega)
    · rintro ⟨h0, h⟩
      have a := ih.2 ⟨h0, fun t ht => h t (by omega)⟩
      have b := h k (by omega)
      show max (pkI l xs i k) (hadT (setS l i 1000) xs i k) ≤ s
      omega
/-- With a Size of at least what is held it never spills just where the greatest is not above it. -/
theorem never_iff {l : List (Int × Int × Int)} {xs : List Int} {i m : Nat} {s : Int} (hi : i < l.length) (h0 : pkI l xs i 0 ≤ s) (h2 : s ≤ 1000) : (∀ t, t < m → spAt (setS l i s) xs t i ≤ 0) ↔ pkI l xs i m ≤ s := by
  rw [pkI_le]
  constructor
  · intro h
    refine ⟨h0, ?_⟩
    have key : ∀ k, k ≤ m → ∀ t, t < k → hadT (setS l i 1000) xs i t ≤ s := by
      intro k
      induction k with
      | zero => intro _ t ht; omega
      | succ k ih =>
        intro hk t ht
        have a := ih (by omega)
        by_cases e : t = k
        · subst e
          have b := h t (by omega)
          rw [spAt_set l xs i s t hi h2 a] at b
          omega
        · exact a t (by omega)
    exact key m (Nat.le_refl _)
  · rintro ⟨_, h⟩ t ht
    rw [spAt_set l xs i s t hi h2 (fun u hu => h u (by omega))]
    have := h t ht
    omega
theorem pkI_bd {l : List (Int × Int × Int)} {xs : List Int} {i : Nat} (hl : RowOk l) (hx : FlowOk xs) (hi : i < l.length) (k : Nat) (hk : k ≤ xs.length) : 1 ≤ pkI l xs i k ∧ pkI l xs i k ≤ 8000 := by
  have hb := hl.2.2 i hi
  unfold BasOk at hb
  have hs := setS_ok hl i 1000 hi (by omega) (by omega) (by omega)
  induction k with
  | zero => unfold pkI; omega
  | succ k ih =>
    have a := ih (by omega)
    have rk := rowK_ok hs hx k (by omega)
    have xb := hx.2 k (by omega)
    have hil : i < (rowK (setS l i 1000) xs k).length := by rw [rowK_length, setS_length]; exact hi
    have c := rk.2.2 i hil
    have d := inK_bd rk xb.1 i (by omega)
    have l6 := rk.2.1
    unfold BasOk at c
    unfold pkI hadT hadI
    omega
def lsB (l : List (Int × Int × Int)) (i : Int) (xs : List Int) : Bool := askB l xs && inB 0 ((l.length : Int) - 1) i
/-- What is answered. -/
def lsM (l : List (Int × Int × Int)) (i : Int) (xs : List Int) : Int × Bool :=
  if lsB l i xs then (if pkI l xs i.toNat xs.length ≤ 1000 then (pkI l xs i.toNat xs.length, true) else (0, false)) else (0, false)
end Go.Proofs.Ytchnnbkaiagpgaa
