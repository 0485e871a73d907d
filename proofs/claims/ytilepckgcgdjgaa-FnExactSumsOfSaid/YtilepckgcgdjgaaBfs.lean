/- Vessels that are reached, in the order in which they are found. Nothing here speaks of the program's text. -/
import Derived.Test.YtilepckgcgdjgaaAlong
import Derived.Test.YtilepckgcgdjgaaGrid
namespace Go.Proofs.Ytilepckgcgdjgaa
open Go.RowKit

/-- One that is reached: what is held, from which one, by which move, behind how many moves. -/
structure Node where
  h : List Int
  fr : Int
  mv : Int × Int
  far : Nat
def dN : Node := ⟨[], -1, (0, 0), 0⟩
def nHas (L : List Node) (H : List Int) : Bool := L.any (fun x => decide (x.h = H))
theorem nHas_iff {L : List Node} {H : List Int} : nHas L H = true ↔ ∃ k, k < L.length ∧ (L[k]?.getD dN).h = H := by
  unfold nHas
  rw [List.any_eq_true]
  constructor
  · rintro ⟨x, hx, e⟩
    obtain ⟨k, hk, rfl⟩ := List.getElem_of_mem hx
    exact ⟨k, hk, by rw [List.getElem?_eq_getElem hk]; simpa using e⟩
  · rintro ⟨k, hk, e⟩
    rw [List.getElem?_eq_getElem hk] at e
    exact ⟨L[k], List.getElem_mem hk, by simpa using e⟩
theorem nHas_false {L : List Node} {H : List Int} : nHas L H = false ↔ ∀ k, k < L.length → (L[k]?.getD dN).h ≠ H := by
  rw [← Bool.not_eq_true, nHas_iff]
  constructor
  · exact fun h k hk e => h ⟨k, hk, e⟩
  · rintro h ⟨k, hk, e⟩
    exact h k hk e
def nextN (S : List Int) (L : List Node) (k : Nat) (p : Int × Int) : Node := ⟨poured S (L[k]?.getD dN).h p.1 p.2, (k : Int), p, (L[k]?.getD dN).far + 1⟩
def addN (S : List Int) (L : List Node) (k : Nat) (p : Int × Int) : List Node :=
  if nHas L (poured S (L[k]?.getD dN).h p.1 p.2) = true then L else L ++ [nextN S L k p]
/-- Behind the first j of the moves ps. -/
def addsN (S : List Int) (L : List Node) (k : Nat) (ps : List (Int × Int)) : Nat → List Node
  | 0 => L
  | j + 1 => addN S (addsN S L k ps j) k (ps[j]?.getD (0, 0))
def onN (S : List Int) (cl : Bool) (L : List Node) (k : Nat) : List (Int × Int) := onL S (L[k]?.getD dN).h cl
def goN (S : List Int) (cl : Bool) (L : List Node) (k : Nat) : List Node := addsN S L k (onN S cl L k) (onN S cl L k).length
def seqN (S H : List Int) (cl : Bool) : Nat → List Node
  | 0 => [⟨H, -1, (0, 0), 0⟩]
  | k + 1 => if k < (seqN S H cl k).length then goN S cl (seqN S H cl k) k else seqN S H cl k

theorem prefix_get {L M : List Node} (h : L <+: M) {k : Nat} (hk : k < L.length) : M[k]?.getD dN = L[k]?.getD dN := by
  obtain ⟨t, rfl⟩ := h
  rw [List.getElem?_append_left hk]
theorem addN_prefix (S : List Int) (L : List Node) (k : Nat) (p : Int × Int) : L <+: addN S L k p := by
  unfold addN
  split
  · exact List.prefix_refl _
  · exact List.prefix_append _ _
theorem addsN_prefix (S : List Int) (L : List Node) (k : Nat) (ps : List (Int × Int)) {i j : Nat} (h : i ≤ j) : addsN S L k ps i <+: addsN S L k ps j := by
  induction j with
  | zero => obtain rfl : i = 0 := by omega
            exact List.prefix_refl _
  | succ j ih =>
    by_cases e : i = j + 1
    · subst e; exact List.prefix_refl _
    · exact (ih (by omega)).trans (addN_prefix _ _ _ _)
theorem goN_prefix (S : List Int) (cl : Bool) (L : List Node) (k : Nat) : L <+: goN S cl L k := addsN_prefix S L k _ (Nat.zero_le _)
theorem seqN_step (S H : List Int) (cl : Bool) (k : Nat) : seqN S H cl k <+: seqN S H cl (k + 1) := by
  show _ <+: if k < (seqN S H cl k).length then goN S cl (seqN S H cl k) k else seqN S H cl k
  split
  · exact goN_prefix _ _ _ _
  · exact List.prefix_refl _
theorem seqN_prefix (S H : List Int) (cl : Bool) {i j : Nat} (h : i ≤ j) : seqN S H cl i <+: seqN S H cl j := by
  induction j with
  | zero => obtain rfl : i = 0 := by omega
            exact List.prefix_refl _
  | succ j ih =>
    by_cases e : i = j + 1
    · subst e; exact List.prefix_refl _
    · exact (ih (by omega)).trans (seqN_step _ _ _ _)
theorem seqN_pos (S H : List Int) (cl : Bool) (k : Nat) : 1 ≤ (seqN S H cl k).length := (seqN_prefix S H cl (Nat.zero_le k)).length_le
theorem seqN_succ {S H : List Int} {cl : Bool} {k : Nat} (h : k < (seqN S H cl k).length) : seqN S H cl (k + 1) = goN S cl (seqN S H cl k) k := if_pos h
theorem seqN_stop {S H : List Int} {cl : Bool} {k : Nat} (h : (seqN S H cl k).length ≤ k) {j : Nat} (hj : k ≤ j) : seqN S H cl j = seqN S H cl k := by
  induction j with
  | zero => obtain rfl : k = 0 := by omega
            rfl
  | succ j ih =>
    by_cases e : k = j + 1
    · subst e; rfl
    · have q := ih (by omega)
      show (if j < (seqN S H cl j).length then goN S cl (seqN S H cl j) j else seqN S H cl j) = _
      rw [q, if_neg (by omega)]
def endN (S H : List Int) (cl : Bool) (most : Nat) : List Node := seqN S H cl (most + 1)
def fewB (S H : List Int) (cl : Bool) (most : Nat) : Bool := decide ((endN S H cl most).length ≤ most)
theorem few_done {S H : List Int} {cl : Bool} {most k : Nat} (h : (seqN S H cl k).length = k) (hk : k ≤ most) : fewB S H cl most = true ∧ endN S H cl most = seqN S H cl k := by
  have e : endN S H cl most = seqN S H cl k := seqN_stop (by omega) (by omega)
  exact ⟨decide_eq_true (by rw [e]; omega), e⟩
theorem few_over {S H : List Int} {cl : Bool} {most k : Nat} {L : List Node} (hk : k ≤ most + 1) (hp : L <+: seqN S H cl k) (h : most < L.length) : fewB S H cl most = false := by
  refine decide_eq_false ?_
  have h1 := hp.length_le
  have h2 := (seqN_prefix S H cl hk).length_le
  unfold endN
  omega

/-- All that is found is good, has not been found before, and lies behind that from which it comes. -/
structure Found (S H : List Int) (L : List Node) : Prop where
  pos : 0 < L.length
  root : L[0]?.getD dN = ⟨H, -1, (0, 0), 0⟩
  good : ∀ k, k < L.length → Good S (L[k]?.getD dN).h
  once : ∀ i j, i < j → j < L.length → (L[i]?.getD dN).h ≠ (L[j]?.getD dN).h
  back : ∀ k, 0 < k → k < L.length → ∃ i : Nat, (L[k]?.getD dN).fr = (i : Int) ∧ i < k ∧ (L[k]?.getD dN).far = (L[i]?.getD dN).far + 1 ∧ MoveOk S.length (L[k]?.getD dN).mv.1 (L[k]?.getD dN).mv.2
theorem Found.start {S H : List Int} (hg : Good S H) : Found S H [⟨H, -1, (0, 0), 0⟩] where
  pos := by simp
  root := rfl
  good := fun k hk => by
    obtain rfl : k = 0 := by simp at hk; exact hk
    exact hg
  once := fun i j hi hj => by simp at hj; omega
  back := fun k hk h => by simp at h; omega
theorem Found.add {S H : List Int} {L : List Node} (h : Found S H L) {k : Nat} (hk : k < L.length) {p : Int × Int} (hp : MoveOk S.length p.1 p.2) : Found S H (addN S L k p) := by
  unfold addN
  split
  · exact h
  · rename_i hn
    have hn' : nHas L (poured S (L[k]?.getD dN).h p.1 p.2) = false := by simpa using hn
    rw [nHas_false] at hn'
    have hlast : ∀ j, j = L.length → (L ++ [nextN S L k p])[j]?.getD dN = nextN S L k p := fun j e => by subst e; simp
    have hold : ∀ j, j < L.length → (L ++ [nextN S L k p])[j]?.getD dN = L[j]?.getD dN := fun j hj => by rw [List.getElem?_append_left hj]
    refine ⟨by simp, by rw [hold 0 h.pos]; exact h.root, fun j hj => ?_, fun i j hij hj => ?_, fun j h0 hj => ?_⟩
    · rw [List.length_append] at hj
      by_cases e : j = L.length
      · rw [hlast j e]; exact (h.good k hk).poured hp
      · rw [hold j (by simp at hj; omega)]; exact h.good j (by simp at hj; omega)
    · rw [List.length_append] at hj
      by_cases e : j = L.length
      · rw [hlast j e, hold i (by omega)]
        exact hn' i (by omega)
      · rw [hold j (by simp at hj; omega), hold i (by simp at hj; omega)]
        exact h.once i j hij (by simp at hj; omega)
    · rw [List.length_append] at hj
      by_cases e : j = L.length
      · rw [hlast j e]
        exact ⟨k, rfl, by omega, by rw [hold k hk]; rfl, hp⟩
      · rw [hold j (by simp at hj; omega)]
        obtain ⟨i, q1, q2, q3, q4⟩ := h.back j h0 (by simp at hj; omega)
        exact ⟨i, q1, q2, by rw [hold i (by simp at hj; omega)]; exact q3, q4⟩
theorem Found.far_le {S H : List Int} {L : List Node} (h : Found S H L) (k : Nat) (hk : k < L.length) : (L[k]?.getD dN).far ≤ k := by
  induction k using Nat.strongRecOn with
  | _ k ih =>
    by_cases h0 : k = 0
    · subst h0; rw [h.root]; exact Nat.le_refl _
    · obtain ⟨i, _, hi, e, _⟩ := h.back k (by omega) hk
      have := ih i hi (by omega)
      omega
theorem onL_ok {S H : List Int} {cl : Bool} {p : Int × Int} (h : p ∈ onL S H cl) : MoveOk S.length p.1 p.2 := by
  unfold onL gridUp gridRow at h
  simp only [List.mem_flatMap, List.mem_filter] at h
  obtain ⟨a, _, _, hb⟩ := h
  unfold onB at hb
  simp only [Bool.and_eq_true] at hb
  exact moveB_iff.1 hb.1.1
theorem onL_at {S H : List Int} {cl : Bool} {j : Nat} (h : j < (onL S H cl).length) : MoveOk S.length ((onL S H cl)[j]?.getD (0, 0)).1 ((onL S H cl)[j]?.getD (0, 0)).2 := by
  have := onL_ok (List.getElem_mem h)
  rwa [List.getElem?_eq_getElem h]
theorem Found.adds {S H : List Int} {L : List Node} (h : Found S H L) {k : Nat} (hk : k < L.length) {ps : List (Int × Int)} {j : Nat} (hj : j ≤ ps.length) (hp : ∀ i, i < ps.length → MoveOk S.length (ps[i]?.getD (0, 0)).1 (ps[i]?.getD (0, 0)).2) :
    Found S H (addsN S L k ps j) := by
  induction j with
  | zero => exact h
  | succ j ih => exact (ih (by omega)).add (Nat.lt_of_lt_of_le hk (addsN_prefix S L k ps (Nat.zero_le j)).length_le) (hp j (by omega))
theorem Found.go {S H : List Int} {cl : Bool} {L : List Node} (h : Found S H L) {k : Nat} (hk : k < L.length) : Found S H (goN S cl L k) := h.adds hk (Nat.le_refl _) fun _ hi => onL_at hi
theorem found_seq {S H : List Int} (cl : Bool) (hg : Good S H) (k : Nat) : Found S H (seqN S H cl k) := by
  induction k with
  | zero => exact Found.start hg
  | succ k ih =>
    show Found S H (if k < (seqN S H cl k).length then goN S cl (seqN S H cl k) k else seqN S H cl k)
    split
    · rename_i h
      exact ih.go h
    · exact ih
theorem adds_get {S : List Int} {L : List Node} {k : Nat} {ps : List (Int × Int)} (hk : k < L.length) (j : Nat) : (addsN S L k ps j)[k]?.getD dN = L[k]?.getD dN := prefix_get (addsN_prefix S L k ps (Nat.zero_le j)) hk

/-! ### Vessels in their order -/
def lexB : List Int → List Int → Bool
  | a :: A, b :: B => if a = b then lexB A B else decide (a < b)
  | _, _ => false
theorem lexB_irr (A : List Int) : lexB A A = false := by
  induction A with
  | nil => rfl
  | cons a A ih => unfold lexB; rw [if_pos rfl]; exact ih
theorem lexB_trans {A B C : List Int} (h1 : lexB A B = true) (h2 : lexB B C = true) : lexB A C = true := by
  induction A generalizing B C with
  | nil => simp [lexB] at h1
  | cons a A ih =>
    cases B with
    | nil => simp [lexB] at h1
    | cons b B =>
      cases C with
      | nil => simp [lexB] at h2
      | cons c C =>
        unfold lexB at h1 h2 ⊢
        by_cases e1 : a = b
        · rw [if_pos e1] at h1
          by_cases e2 : b = c
          · rw [if_pos e2] at h2
            rw [if_pos (e1.trans e2)]
            exact ih h1 h2
          · rw [if_neg e2] at h2
            rw [if_neg (by omega)]
            simp at h2 ⊢
            omega
        · rw [if_neg e1] at h1
          simp at h1
          by_cases e2 : b = c
          · rw [if_neg (by omega)]; simp; omega
          · rw [if_neg e2] at h2
            simp at h2
            rw [if_neg (by omega)]; simp; omega
theorem lexB_total {A B : List Int} (hl : A.length = B.length) (h1 : lexB A B = false) (h2 : A ≠ B) : lexB B A = true := by
  induction A generalizing B with
  | nil => cases B with
    | nil => exact absurd rfl h2
    | cons b B => simp at hl
  | cons a A ih =>
    cases B with
    | nil => simp at hl
    | cons b B =>
      unfold lexB at h1 ⊢
      by_cases e : a = b
      · subst e
        rw [if_pos rfl] at h1 ⊢
        exact ih (by simpa using hl) h1 (fun e => h2 (by rw [e]))
      · rw [if_neg e] at h1
        rw [if_neg (fun x => e x.symm)]
        simp at h1 ⊢
        omega
/-- Where two lists first part. -/
theorem lexB_at {A B : List Int} {k : Nat} (hA : k < A.length) (hB : k < B.length) (he : ∀ i, i < k → A[i]?.getD 0 = B[i]?.getD 0) (hn : A[k]?.getD 0 ≠ B[k]?.getD 0) : lexB A B = decide (A[k]?.getD 0 < B[k]?.getD 0) := by
  induction k generalizing A B with
  | zero =>
    cases A with
    | nil => simp at hA
    | cons a A => cases B with
      | nil => simp at hB
      | cons b B =>
        simp at hn
        unfold lexB
        rw [if_neg hn]
        simp
  | succ k ih =>
    cases A with
    | nil => simp at hA
    | cons a A => cases B with
      | nil => simp at hB
      | cons b B =>
        have e0 := he 0 (by omega)
        simp at e0
        unfold lexB
        rw [if_pos e0]
        have := ih (A := A) (B := B) (by simpa using hA) (by simpa using hB) (fun i hi => by have := he (i + 1) (by omega); simpa using this) (by simpa using hn)
        rw [this]
        simp
theorem lexB_same {A B : List Int} (hl : A.length = B.length) (he : ∀ i, i < A.length → A[i]?.getD 0 = B[i]?.getD 0) : lexB A B = false := by
  rw [ext_getD hl he]
  exact lexB_irr B

/-- All numbers of those that are found, in their order. -/
structure Sorted (L : List Node) (O : List Nat) : Prop where
  len : O.length = L.length
  bnd : ∀ i, i < O.length → O[i]?.getD 0 < L.length
  all : ∀ k, k < L.length → ∃ i, i < O.length ∧ O[i]?.getD 0 = k
  lt : ∀ i j, i < j → j < O.length → lexB (L[O[i]?.getD 0]?.getD dN).h (L[O[j]?.getD 0]?.getD dN).h = true
def heldAt (L : List Node) (O : List Nat) (i : Nat) : List Int := (L[O[i]?.getD 0]?.getD dN).h
/-- Where vessels are, or would be. -/
structure PlaceOf (L : List Node) (O : List Nat) (v : List Int) (at' : Nat) : Prop where
  le : at' ≤ O.length
  lo : ∀ i, i < at' → lexB (heldAt L O i) v = true
  hi : ∀ i, at' ≤ i → i < O.length → lexB (heldAt L O i) v = false
theorem PlaceOf.found {L : List Node} {O : List Nat} {v : List Int} {a : Nat} (hs : Sorted L O) (hp : PlaceOf L O v a) :
    nHas L v = decide (a < O.length ∧ heldAt L O a = v) := by
  by_cases h : a < O.length ∧ heldAt L O a = v
  · rw [decide_eq_true h, nHas_iff]
    exact ⟨_, hs.bnd a h.1, h.2⟩
  · rw [decide_eq_false h, nHas_false]
    intro k hk e
    obtain ⟨i, hi, rfl⟩ := hs.all k hk
    have e' : heldAt L O i = v := e
    by_cases hlt : i < a
    · have := hp.lo i hlt
      rw [e', lexB_irr] at this
      exact absurd this (by decide)
    · by_cases hia : i = a
      · subst hia; exact h ⟨hi, e'⟩
      · have q1 := hs.lt a i (by omega) hi
        have q2 : lexB (heldAt L O a) v = true := by rw [← e']; exact q1
        rw [hp.hi a (Nat.le_refl _) (by omega)] at q2
        exact absurd q2 (by decide)
/-- Where they are found, it is at their number. -/
theorem PlaceOf.unique {S H : List Int} {L : List Node} {O : List Nat} {v : List Int} {a k : Nat} (hf : Found S H L) (hs : Sorted L O) (ha : a < O.length) (e : heldAt L O a = v) (hk : k < L.length) (ek : (L[k]?.getD dN).h = v) : O[a]?.getD 0 = k := by
  have hb := hs.bnd a ha
  by_cases h1 : O[a]?.getD 0 < k
  · exact absurd (e.trans ek.symm) (hf.once _ _ h1 hk)
  · by_cases h2 : k < O[a]?.getD 0
    · exact absurd (ek.trans e.symm) (hf.once _ _ h2 hb)
    · omega
def insN (O : List Nat) (a x : Nat) : List Nat := O.take a ++ x :: O.drop a
theorem insN_length {O : List Nat} {a x : Nat} (h : a ≤ O.length) : (insN O a x).length = O.length + 1 := by
  unfold insN
  rw [List.length_append, List.length_take, List.length_cons, List.length_drop]
  omega
theorem insN_get {O : List Nat} {a x : Nat} (h : a ≤ O.length) (i : Nat) : (insN O a x)[i]?.getD 0 = if i < a then O[i]?.getD 0 else if i = a then x else O[i - 1]?.getD 0 := by
  unfold insN
  by_cases h1 : i < a
  · rw [if_pos h1, List.getElem?_append_left (by rw [List.length_take]; omega), List.getElem?_take, if_pos h1]
  · rw [if_neg h1, List.getElem?_append_right (by rw [List.length_take]; omega), List.length_take]
    by_cases h2 : i = a
    · subst h2
      rw [if_pos rfl, show i - min i O.length = 0 by omega]
      rfl
    · rw [if_neg h2, show i - min a O.length = (i - a - 1) + 1 by omega, List.getElem?_cons_succ, List.getElem?_drop, show a + (i - a - 1) = i - 1 by omega]
theorem Sorted.ins {S H : List Int} {L : List Node} {O : List Nat} {x : Node} {a : Nat} (hf : Found S H L) (hs : Sorted L O) (hp : PlaceOf L O x.h a) (hx : x.h.length = S.length) (hn : nHas L x.h = false) : Sorted (L ++ [x]) (insN O a L.length) := by
  have hlen := insN_length (x := L.length) hp.le
  have hl := hs.len
  have hold : ∀ j, j < L.length → (L ++ [x])[j]?.getD dN = L[j]?.getD dN := fun j hj => by rw [List.getElem?_append_left hj]
  have hnew : (L ++ [x])[L.length]?.getD dN = x := by simp
  refine ⟨by rw [hlen, hl]; simp, fun i hi => ?_, fun k hk => ?_, fun i j hij hj => ?_⟩
  · rw [hlen] at hi
    rw [insN_get hp.le, List.length_append]
    split
    · have := hs.bnd i (by have := hp.le; omega); simp; omega
    · split
      · simp
      · have := hs.bnd (i - 1) (by omega); simp; omega
  · rw [List.length_append] at hk
    by_cases e : k = L.length
    · exact ⟨a, by have := hp.le; omega, by rw [insN_get hp.le, if_neg (by omega), if_pos rfl, e]⟩
    · obtain ⟨i, hi, ei⟩ := hs.all k (by simp at hk; omega)
      by_cases h : i < a
      · exact ⟨i, by omega, by rw [insN_get hp.le, if_pos h, ei]⟩
      · exact ⟨i + 1, by omega, by rw [insN_get hp.le, if_neg (by omega), if_neg (by omega)]; simpa using ei⟩
  · rw [hlen] at hj
    have key : ∀ i, i < O.length → a ≤ i → lexB x.h (heldAt L O i) = true := fun i hi hai => by
      refine lexB_total ?_ (hp.hi i hai hi) fun e => ?_
      · rw [hx]
        have := (hf.good _ (hs.bnd i hi)).2.1
        exact this
      · rw [nHas_false] at hn
        exact hn _ (hs.bnd i hi) e
    have val : ∀ i, i < O.length + 1 → ((L ++ [x])[(insN O a L.length)[i]?.getD 0]?.getD dN).h = if i < a then heldAt L O i else if i = a then x.h else heldAt L O (i - 1) := fun i hi => by
      rw [insN_get hp.le]
      by_cases h1 : i < a
      · rw [if_pos h1, if_pos h1, hold _ (hs.bnd i (by have := hp.le; omega))]; rfl
      · by_cases h2 : i = a
        · rw [if_neg h1, if_neg h1, if_pos h2, if_pos h2, hnew]
        · rw [if_neg h1, if_neg h1, if_neg h2, if_neg h2, hold _ (hs.bnd (i - 1) (by omega))]; rfl
    rw [val i (by omega), val j hj]
    by_cases h1 : j < a
    · rw [if_pos (show i < a by omega), if_pos h1]
      exact hs.lt i j hij (by have := hp.le; omega)
    · rw [if_neg h1]
      by_cases h2 : j = a
      · rw [if_pos (show i < a by omega), if_pos h2]
        exact hp.lo i (by omega)
      · rw [if_neg h2]
        by_cases h3 : i < a
        · rw [if_pos h3]
          exact hs.lt i (j - 1) (by omega) (by omega)
        · rw [if_neg h3]
          by_cases h4 : i = a
          · rw [if_pos h4]
            exact key (j - 1) (by omega) (by omega)
          · rw [if_neg h4]
            exact hs.lt (i - 1) (j - 1) (by omega) (by omega)
end Go.Proofs.Ytilepckgcgdjgaa
