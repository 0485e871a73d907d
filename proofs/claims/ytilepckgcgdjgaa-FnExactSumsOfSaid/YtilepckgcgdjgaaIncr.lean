import Derived.Lib.SlicesCompact
namespace Go.Proofs.Ytilepckgcgdjgaa
open Go.Lib

/-! What a list becomes when it is sorted and each number is kept once: the numbers below N that occur in it. -/

theorem asc_eq : ∀ {a b : List Int}, a.Pairwise (· < ·) → b.Pairwise (· < ·) → (∀ x, x ∈ a ↔ x ∈ b) → a = b
  | [], [], _, _, _ => rfl
  | [], y :: b, _, _, h => by have := (h y).2 (by simp); simp at this
  | x :: a, [], _, _, h => by have := (h x).1 (by simp); simp at this
  | x :: a, y :: b, ha, hb, h => by
    rw [List.pairwise_cons] at ha hb
    have hxy : x = y := by
      have h1 := (h x).1 (by simp)
      have h2 := (h y).2 (by simp)
      rcases List.mem_cons.1 h1 with e | e
      · exact e
      · rcases List.mem_cons.1 h2 with e' | e'
        · exact e'.symm
        · have := hb.1 _ e; have := ha.1 _ e'; omega
    subst hxy
    congr 1
    refine asc_eq ha.2 hb.2 fun z => ?_
    constructor
    · intro hz
      rcases List.mem_cons.1 ((h z).1 (List.mem_cons_of_mem _ hz)) with e | e
      · have := ha.1 _ hz; omega
      · exact e
    · intro hz
      rcases List.mem_cons.1 ((h z).2 (List.mem_cons_of_mem _ hz)) with e | e
      · have := hb.1 _ hz; omega
      · exact e

theorem compactUpTo_asc {d : Array Int} (hs : ∀ i j, i ≤ j → j < d.size → d[i]! ≤ d[j]!) : ∀ m, m ≤ d.size →
    (compactUpTo d m).Pairwise (· < ·) ∧ ∀ x, x ∈ compactUpTo d m ↔ ∃ j, j < m ∧ x = d[j]!
  | 0, _ => by simp [compactUpTo]
  | m + 1, hm => by
    obtain ⟨h1, h2⟩ := compactUpTo_asc hs m (by omega)
    rw [compactUpTo_succ]
    cases hk : keeps d m with
    | true =>
      simp only [if_true]
      have hlt : ∀ j, j < m → d[j]! < d[m]! := by
        intro j hj
        have hne : d[m]! ≠ d[m - 1]! := by
          simp only [keeps, decide_eq_true_eq] at hk
          rcases hk with h | h
          · omega
          · exact h
        have a1 := hs j (m - 1) (by omega) (by omega)
        have a2 := hs (m - 1) m (by omega) (by omega)
        omega
      refine ⟨?_, fun x => ?_⟩
      · rw [List.pairwise_append]
        refine ⟨h1, by simp, fun a ha b hb => ?_⟩
        obtain ⟨j, hj, rfl⟩ := (h2 a).1 ha
        rw [List.mem_singleton.1 hb]
        exact hlt j hj
      · rw [List.mem_append, List.mem_singleton, h2]
        constructor
        · rintro (⟨j, hj, rfl⟩ | rfl)
          · exact ⟨j, by omega, rfl⟩
          · exact ⟨m, by omega, rfl⟩
        · rintro ⟨j, hj, rfl⟩
          by_cases e : j = m
          · subst e; exact .inr rfl
          · exact .inl ⟨j, by omega, rfl⟩
    | false =>
      simp only [Bool.false_eq_true, if_false, List.append_nil]
      refine ⟨h1, fun x => ?_⟩
      rw [h2]
      constructor
      · rintro ⟨j, hj, rfl⟩
        exact ⟨j, by omega, rfl⟩
      · rintro ⟨j, hj, rfl⟩
        by_cases e : j = m
        · subst e
          simp only [keeps, decide_eq_false_iff_not, not_or, Decidable.not_not] at hk
          exact ⟨j - 1, by omega, hk.2⟩
        · exact ⟨j, by omega, rfl⟩

/-- The numbers below N that occur, increasing. -/
def occur (N : Nat) (L : List Nat) : List Nat := (List.range N).filter fun n => decide (n ∈ L)

theorem occur_length (N : Nat) (L : List Nat) : (occur N L).length ≤ N := by
  unfold occur
  have := List.length_filter_le (fun n => decide (n ∈ L)) (List.range N)
  simpa using this

theorem occur_lt {N : Nat} {L : List Nat} {x : Nat} (h : x ∈ occur N L) : x < N := by
  unfold occur at h
  simpa using (List.mem_filter.1 h).1

theorem compact_sorted {N : Nat} {L : List Nat} (h : ∀ x, x ∈ L → x < N) {zs : List Int} (hz : zs = L.map Int.ofNat) :
    compactUpTo (zs.mergeSort fun x y => decide (x ≤ y)).toArray (zs.mergeSort fun x y => decide (x ≤ y)).toArray.size = (occur N L).map Int.ofNat := by
  have hp := List.mergeSort_perm zs fun x y => decide (x ≤ y)
  have hs : (zs.mergeSort fun x y => decide (x ≤ y)).Pairwise (fun x y => x ≤ y) := by
    have := List.pairwise_mergeSort (le := fun x y : Int => decide (x ≤ y)) (fun a b c h1 h2 => by simp only [decide_eq_true_eq] at *; omega) (fun a b => by simp only [Bool.or_eq_true, decide_eq_true_eq]; omega) zs
    exact this.imp (by simp)
  generalize (zs.mergeSort fun x y => decide (x ≤ y)) = ys at hp hs
  have hs' : ∀ i j, i ≤ j → j < ys.toArray.size → ys.toArray[i]! ≤ ys.toArray[j]! := by
    intro i j hij hj
    simp only [List.size_toArray] at hj
    by_cases e : i = j
    · subst e; exact Int.le_refl _
    · have := (List.pairwise_iff_getElem.1 hs) i j (by omega) hj (by omega)
      simpa [getElem!_pos, hj, show i < ys.length by omega] using this
  obtain ⟨c1, c2⟩ := compactUpTo_asc hs' ys.toArray.size (Nat.le_refl _)
  refine asc_eq c1 ?_ fun x => ?_
  · rw [List.pairwise_map]
    unfold occur
    refine List.Pairwise.filter _ ?_
    refine List.pairwise_lt_range.imp ?_
    intro a b hab
    simpa using hab
  · rw [c2]
    have hx : (∃ j, j < ys.toArray.size ∧ x = ys.toArray[j]!) ↔ x ∈ ys := by
      constructor
      · rintro ⟨j, hj, rfl⟩
        simp only [List.size_toArray] at hj
        simp [getElem!_pos, hj]
      · intro hm
        obtain ⟨j, hj, rfl⟩ := List.mem_iff_getElem.1 hm
        exact ⟨j, by simpa using hj, by simp [getElem!_pos, hj]⟩
    rw [hx, hp.mem_iff, hz]
    simp only [List.mem_map, occur, List.mem_filter, List.mem_range, decide_eq_true_eq]
    constructor
    · rintro ⟨a, ha, rfl⟩
      exact ⟨a, ⟨h a ha, ha⟩, rfl⟩
    · rintro ⟨a, ⟨_, ha⟩, rfl⟩
      exact ⟨a, ha, rfl⟩

end Go.Proofs.Ytilepckgcgdjgaa
