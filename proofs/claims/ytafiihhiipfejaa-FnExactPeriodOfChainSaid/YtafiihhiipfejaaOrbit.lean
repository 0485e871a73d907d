/- Sequences that come again: the first place at which one does, and the place before it. Plain mathematics. -/
import Derived.Test.YtafiihhiipfejaaRun
namespace Go.Proofs.Ytafiihhiipfejaa

/-- n is the first place whose element was there before, and k is where. -/
def Meets {α : Type} (F : Nat → α) (n k : Nat) : Prop := (∀ i j, i < j → j < n → F i ≠ F j) ∧ k < n ∧ F k = F n
theorem Meets.unique {α : Type} {F : Nat → α} {n k n' k' : Nat} (h : Meets F n k) (h' : Meets F n' k') : n = n' ∧ k = k' := by
  obtain ⟨a, b, c⟩ := h
  obtain ⟨a', b', c'⟩ := h'
  have hn : n = n' := by
    rcases Nat.lt_trichotomy n n' with q | q | q
    · exact absurd c (a' k n b q)
    · exact q
    · exact absurd c' (a k' n' b' q)
  subst hn
  refine ⟨rfl, ?_⟩
  rcases Nat.lt_trichotomy k k' with q | q | q
  · exact absurd (c.trans c'.symm) (a k k' q b')
  · exact q
  · exact absurd (c'.trans c.symm) (a k' k q b)
def repB {α : Type} [DecidableEq α] (F : Nat → α) (n : Nat) : Bool := (List.range n).any fun k => decide (F k = F n)
def meetN {α : Type} [DecidableEq α] (F : Nat → α) (fuel : Nat) : Option Nat := (List.range (fuel + 1)).find? (repB F)
def meetK {α : Type} [DecidableEq α] (F : Nat → α) (n : Nat) : Nat := ((List.range n).find? fun k => decide (F k = F n)).getD 0
theorem find_range (P : Nat → Bool) (m k : Nat) (hk : k < m) (hP : P k = true) (h : ∀ j, j < k → P j = false) : (List.range m).find? P = some k := by
  induction m with
  | zero => omega
  | succ m ih =>
    rw [List.range_succ, List.find?_append]
    by_cases e : k < m
    · rw [ih e]; rfl
    · obtain rfl : k = m := by omega
      have : (List.range k).find? P = none := by
        rw [List.find?_eq_none]
        intro x hx
        rw [h x (List.mem_range.1 hx)]
        decide
      rw [this]
      simp [hP]
theorem repB_false {α : Type} [DecidableEq α] {F : Nat → α} {n : Nat} (h : ∀ i j, i < j → j < n → F i ≠ F j) {m : Nat} (hm : m < n) : repB F m = false := by
  unfold repB
  rw [← Bool.not_eq_true, List.any_eq_true]
  rintro ⟨k, hk, he⟩
  exact h k m (List.mem_range.1 hk) hm (of_decide_eq_true he)
theorem Meets.n_is {α : Type} [DecidableEq α] {F : Nat → α} {n k fuel : Nat} (h : Meets F n k) (hn : n ≤ fuel) : meetN F fuel = some n := by
  refine find_range _ _ n (by omega) ?_ fun j hj => repB_false h.1 hj
  unfold repB
  rw [List.any_eq_true]
  exact ⟨k, List.mem_range.2 h.2.1, decide_eq_true h.2.2⟩
theorem Meets.k_is {α : Type} [DecidableEq α] {F : Nat → α} {n k : Nat} (h : Meets F n k) : meetK F n = k := by
  unfold meetK
  rw [find_range (fun k => decide (F k = F n)) n k h.2.1 (decide_eq_true h.2.2) fun j hj => decide_eq_false fun e => h.1 j k hj h.2.1 (e.trans h.2.2.symm)]
  rfl
theorem meetN_none {α : Type} [DecidableEq α] {F : Nat → α} {fuel : Nat} (h : ∀ i j, i < j → j < fuel + 1 → F i ≠ F j) : meetN F fuel = none := by
  unfold meetN
  rw [List.find?_eq_none]
  intro x hx
  rw [repB_false h (List.mem_range.1 hx)]
  decide

/-- Numbers below m, all different: at most m. -/
theorem pigeon (m : Nat) : ∀ (n : Nat) (g : Nat → Nat), (∀ i, i < n → g i < m) → (∀ i j, i < j → j < n → g i ≠ g j) → n ≤ m := by
  induction m with
  | zero =>
    intro n g h1 _
    rcases Nat.eq_zero_or_pos n with h | h
    · omega
    · have := h1 0 h; omega
  | succ m ih =>
    intro n g h1 h2
    by_cases hp : ∃ p, p < n ∧ g p = m
    · obtain ⟨p, hp, hg⟩ := hp
      have inj : ∀ i j, i < n → j < n → g i = g j → i = j := fun i j hi hj e => by
        rcases Nat.lt_trichotomy i j with q | q | q
        · exact absurd e (h2 i j q hj)
        · exact q
        · exact absurd e.symm (h2 j i q hi)
      have := ih (n - 1) (fun i => if i < p then g i else g (i + 1)) (fun i hi => by
        by_cases e : i < p
        · simp only [e, if_true]
          have q1 := h1 i (by omega)
          have q2 : g i ≠ m := fun q => by have := inj i p (by omega) hp (q.trans hg.symm); omega
          omega
        · simp only [e, if_false]
          have q1 := h1 (i + 1) (by omega)
          have q2 : g (i + 1) ≠ m := fun q => by have := inj (i + 1) p (by omega) hp (q.trans hg.symm); omega
          omega) (fun i j hij hj => by
        by_cases e1 : i < p <;> by_cases e2 : j < p <;> simp only [e1, e2, if_true, if_false]
        · exact h2 i j hij (by omega)
        · exact h2 i (j + 1) (by omega) (by omega)
        · omega
        · exact h2 (i + 1) (j + 1) (by omega) (by omega))
      omega
    · have := ih n g (fun i hi => by
        have q1 := h1 i hi
        have q2 : g i ≠ m := fun q => hp ⟨i, hi, q⟩
        omega) h2
      omega

/-- The levels of a siphon with a steady inflow, from the empty level on. -/
def cst (a b c d x : Int) : Nat → Int × Bool
  | 0 => (0, false)
  | k + 1 => (tkH a b c d (cst a b c d x k).1 x (cst a b c d x k).2, tkR a b c d (cst a b c d x k).1 x (cst a b c d x k).2)
theorem cst_bd {a b c d x : Int} (hs : SipOk a b c d) (x0 : 0 ≤ x) (k : Nat) : 0 ≤ (cst a b c d x k).1 ∧ (cst a b c d x k).1 ≤ a := by
  induction k with
  | zero => unfold SipOk at hs; exact ⟨Int.le_refl _, by show (0 : Int) ≤ a; omega⟩
  | succ k ih => exact tkH_bd a b c d _ _ _ hs ih.1 x0
theorem cst_few {a b c d x : Int} (hs : SipOk a b c d) (x0 : 0 ≤ x) {n : Nat} (h : ∀ i j, i < j → j < n → cst a b c d x i ≠ cst a b c d x j) : n ≤ 122 := by
  have ha : a ≤ 60 := hs.1.2
  refine pigeon 122 n (fun i => (cst a b c d x i).1.toNat * 2 + (if (cst a b c d x i).2 = true then 1 else 0)) (fun i _ => ?_) fun i j hij hj e => h i j hij hj ?_
  · have := cst_bd hs x0 i
    split <;> omega
  · have hi := cst_bd hs x0 i
    have hj' := cst_bd hs x0 j
    have e1 : (cst a b c d x i).1 = (cst a b c d x j).1 := by
      split at e <;> split at e <;> omega
    have e2 : (cst a b c d x i).2 = (cst a b c d x j).2 := by
      cases q1 : (cst a b c d x i).2 <;> cases q2 : (cst a b c d x j).2 <;> simp [q1, q2] at e ⊢ <;> omega
    exact Prod.ext e1 e2
end Go.Proofs.Ytafiihhiipfejaa
