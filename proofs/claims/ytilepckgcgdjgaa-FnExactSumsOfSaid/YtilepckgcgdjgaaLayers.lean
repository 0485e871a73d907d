/- How many need plans of so many moves; what the search comes to. -/
import Derived.Test.YtilepckgcgdjgaaGone
namespace Go.Proofs.Ytilepckgcgdjgaa
open Go.RowKit Go.Maps

/-- How many of the first n have the number i. -/
def cntTo (f : Nat → Nat) (i : Nat) : Nat → Nat
  | 0 => 0
  | n + 1 => cntTo f i n + if f n = i then 1 else 0
theorem cntTo_congr {f g : Nat → Nat} {i n : Nat} (h : ∀ j, j < n → f j = g j) : cntTo f i n = cntTo g i n := by
  induction n with
  | zero => rfl
  | succ n ih => rw [cntTo, cntTo, ih fun j hj => h j (by omega), h n (by omega)]
theorem cntTo_none {f : Nat → Nat} {i a b : Nat} (hab : a ≤ b) (h : ∀ j, a ≤ j → j < b → f j ≠ i) : cntTo f i b = cntTo f i a := by
  induction b with
  | zero => obtain rfl : a = 0 := by omega
            rfl
  | succ b ih =>
    by_cases e : a = b + 1
    · subst e; rfl
    · rw [cntTo, if_neg (h b (by omega) (by omega)), ih (by omega) fun j h1 h2 => h j h1 (by omega)]; rfl
theorem cntTo_all {f : Nat → Nat} {i a b : Nat} (hab : a ≤ b) (h : ∀ j, a ≤ j → j < b → f j = i) : cntTo f i b = cntTo f i a + (b - a) := by
  induction b with
  | zero => obtain rfl : a = 0 := by omega
            rfl
  | succ b ih =>
    by_cases e : a = b + 1
    · subst e; omega
    · rw [cntTo, if_pos (h b (by omega) (by omega)), ih (by omega) fun j h1 h2 => h j h1 (by omega)]; omega
theorem cntTo_le (f : Nat → Nat) (i n : Nat) : cntTo f i n ≤ n := by
  induction n with
  | zero => exact Nat.le_refl _
  | succ n ih => rw [cntTo]; split <;> omega
def farAt (L : List Node) (j : Nat) : Nat := (L[j]?.getD dN).far
theorem farAt_prefix {L M : List Node} (h : L <+: M) {j : Nat} (hj : j < L.length) : farAt M j = farAt L j := by unfold farAt; rw [prefix_get h hj]
def lastFar (L : List Node) : Nat := farAt L (L.length - 1)
/-- How many need plans of 0, 1, .. moves. -/
def layN (L : List Node) : List Int := (List.range (lastFar L + 1)).map fun (i : Nat) => (cntTo (farAt L) i L.length : Int)
theorem layN_length (L : List Node) : (layN L).length = lastFar L + 1 := by simp [layN]
theorem layN_get (L : List Node) {i : Nat} (hi : i < lastFar L + 1) : (layN L)[i]?.getD 0 = (cntTo (farAt L) i L.length : Int) := by simp [layN, hi]

theorem addsN_far {S : List Int} {L : List Node} {k : Nat} (hk : k < L.length) (ps : List (Int × Int)) (j : Nat) : ∀ i, L.length ≤ i → i < (addsN S L k ps j).length → farAt (addsN S L k ps j) i = farAt L k + 1 := by
  induction j with
  | zero => exact fun i h1 h2 => absurd (show i < L.length from h2) (by omega)
  | succ j ih =>
    intro i h1 h2
    have hg := adds_get (S := S) (ps := ps) hk j
    have hp := addsN_prefix S L k ps (Nat.zero_le j)
    have hp0 : L <+: addsN S L k ps j := hp
    rw [addsN] at h2 ⊢
    unfold addN at h2 ⊢
    split at h2
    · rename_i hh
      rw [if_pos hh]
      exact ih i h1 h2
    · rename_i hh
      rw [if_neg hh]
      by_cases e : i < (addsN S L k ps j).length
      · rw [farAt_prefix (List.prefix_append _ _) e]
        exact ih i h1 e
      · rw [List.length_append] at h2
        simp at h2
        obtain rfl : i = (addsN S L k ps j).length := by omega
        unfold farAt
        simp only [List.getElem?_append_right (Nat.le_refl _), Nat.sub_self, List.getElem?_cons_zero, Option.getD_some, nextN]
        rw [hg]
theorem goN_far {S : List Int} {cl : Bool} {L : List Node} {k : Nat} (hk : k < L.length) (i : Nat) (h1 : L.length ≤ i) (h2 : i < (goN S cl L k).length) : farAt (goN S cl L k) i = farAt L k + 1 := addsN_far hk _ _ i h1 h2

/-- At the head of a layer: first, how many moves. -/
structure Lay (L : List Node) (F : Nat) (lay : List Int) : Prop where
  lt : F < L.length
  lo : ∀ j, j < F → farAt L j < lay.length
  hi : ∀ j, F ≤ j → j < L.length → farAt L j = lay.length
  cnt : ∀ i, i < lay.length → lay[i]?.getD 0 = (cntTo (farAt L) i F : Int)
theorem Lay.start (H : List Int) : Lay [⟨H, -1, (0, 0), 0⟩] 0 [] := ⟨by simp, fun j hj => absurd hj (by omega), fun j _ hj => by
  obtain rfl : j = 0 := by simp at hj; exact hj
  rfl, fun i hi => by simp at hi⟩
/-- Within a layer. -/
structure Mid (L0 L : List Node) (F : Nat) (lay : List Int) (k : Nat) : Prop where
  head : Lay L0 F lay
  pre : L0 <+: L
  ge : F ≤ k ∧ k ≤ L0.length
  far : ∀ i, L0.length ≤ i → i < L.length → farAt L i = lay.length + 1
theorem Lay.mid {L : List Node} {F : Nat} {lay : List Int} (h : Lay L F lay) : Mid L L F lay F := ⟨h, List.prefix_refl _, ⟨Nat.le_refl _, Nat.le_of_lt h.lt⟩, fun i h1 h2 => by omega⟩
theorem Mid.go {S : List Int} {cl : Bool} {L0 L : List Node} {F : Nat} {lay : List Int} {k : Nat} (h : Mid L0 L F lay k) (hk : k < L0.length) : Mid L0 (goN S cl L k) F lay (k + 1) := by
  have hl := h.pre.length_le
  refine ⟨h.head, h.pre.trans (goN_prefix _ _ _ _), by have := h.ge; omega, fun i h1 h2 => ?_⟩
  by_cases e : i < L.length
  · rw [farAt_prefix (goN_prefix _ _ _ _) e]
    exact h.far i h1 e
  · rw [goN_far (by omega) i (by omega) h2, farAt_prefix h.pre hk, h.head.hi k h.ge.1 hk]
theorem Mid.count {L0 L : List Node} {F : Nat} {lay : List Int} {k : Nat} (h : Mid L0 L F lay k) (i : Nat) (hi : i < lay.length + 1) : (lay ++ [((L0.length : Int) - (F : Int))])[i]?.getD 0 = (cntTo (farAt L) i L0.length : Int) := by
  have hlt := h.head.lt
  rw [cntTo_congr (g := farAt L0) fun j hj => farAt_prefix h.pre hj]
  by_cases e : i < lay.length
  · rw [List.getElem?_append_left e, h.head.cnt i e, cntTo_none (Nat.le_of_lt hlt) fun j h1 h2 => by rw [h.head.hi j h1 h2]; omega]
  · obtain rfl : i = lay.length := by omega
    rw [List.getElem?_append_right (Nat.le_refl _), Nat.sub_self, List.getElem?_cons_zero, Option.getD_some, cntTo_all (Nat.le_of_lt hlt) fun j h1 h2 => h.head.hi j h1 h2]
    have : cntTo (farAt L0) lay.length F = cntTo (farAt L0) lay.length 0 := cntTo_none (Nat.zero_le _) fun j _ h2 => by have := h.head.lo j h2; omega
    rw [this, cntTo]
    omega
theorem Mid.next {L0 L : List Node} {F : Nat} {lay : List Int} (h : Mid L0 L F lay L0.length) (hl : L0.length < L.length) : Lay L L0.length (lay ++ [((L0.length : Int) - (F : Int))]) := by
  have hlen : (lay ++ [((L0.length : Int) - (F : Int))]).length = lay.length + 1 := by simp
  refine ⟨hl, fun j hj => ?_, fun j h1 h2 => ?_, fun i hi => ?_⟩
  · rw [farAt_prefix h.pre hj, hlen]
    by_cases e : j < F
    · have := h.head.lo j e; omega
    · rw [h.head.hi j (by omega) hj]; omega
  · rw [hlen]; exact h.far j h1 h2
  · rw [hlen] at hi
    exact h.count i hi
theorem Mid.last {L0 L : List Node} {F : Nat} {lay : List Int} (h : Mid L0 L F lay L0.length) (hl : L.length ≤ L0.length) : lay ++ [((L0.length : Int) - (F : Int))] = layN L := by
  have hle := h.pre.length_le
  have e : L.length = L0.length := by omega
  have hlt := h.head.lt
  have hf : lastFar L = lay.length := by
    unfold lastFar
    rw [e, farAt_prefix h.pre (by omega), h.head.hi _ (by omega) (by omega)]
  have hlen : (lay ++ [((L0.length : Int) - (F : Int))]).length = lay.length + 1 := by simp
  refine ext_getD (by rw [hlen, layN_length, hf]) fun i hi => ?_
  rw [hlen] at hi
  rw [h.count i hi, layN_get L (by omega), e]
end Go.Proofs.Ytilepckgcgdjgaa
