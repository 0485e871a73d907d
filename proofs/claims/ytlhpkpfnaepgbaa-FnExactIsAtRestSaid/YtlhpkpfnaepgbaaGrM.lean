/- Which tanks are joined: the least index of each tank's group, and that whatever has three properties is it. -/
import Derived.Test.YtlhpkpfnaepgbaaAll
namespace Go.Proofs.Ytlhpkpfnaepgbaa
open Go.RowKit

/-- Joined, over any number of joins. -/
inductive Conn (J : List (Nat × Nat)) : Nat → Nat → Prop
  | refl (i : Nat) : Conn J i i
  | symm {i j : Nat} : Conn J i j → Conn J j i
  | trans {i j k : Nat} : Conn J i j → Conn J j k → Conn J i k
  | join {p : Nat × Nat} : p ∈ J → Conn J p.1 p.2
theorem Conn.mono {J K : List (Nat × Nat)} (h : ∀ p ∈ J, p ∈ K) {i j : Nat} (c : Conn J i j) : Conn K i j := by
  induction c with
  | refl i => exact .refl i
  | symm _ ih => exact .symm ih
  | trans _ _ a b => exact .trans a b
  | join hp => exact .join (h _ hp)
/-- L tells of each its group's least index. -/
structure LeadOk (J : List (Nat × Nat)) (L : Nat → Nat) : Prop where
  all : ∀ p ∈ J, L p.1 = L p.2
  le : ∀ i, L i ≤ i
  conn : ∀ i, Conn J i (L i)
theorem LeadOk.const {J : List (Nat × Nat)} {L : Nat → Nat} (h : ∀ p ∈ J, L p.1 = L p.2) {i j : Nat} (c : Conn J i j) : L i = L j := by
  induction c with
  | refl i => rfl
  | symm _ ih => exact ih.symm
  | trans _ _ a b => exact a.trans b
  | join hp => exact h _ hp
theorem LeadOk.unique {J : List (Nat × Nat)} {L K : Nat → Nat} (a : LeadOk J L) (b : LeadOk J K) (i : Nat) : L i = K i := by
  have h1 : K i ≤ L i := by rw [LeadOk.const b.all (a.conn i)]; exact b.le _
  have h2 : L i ≤ K i := by rw [LeadOk.const a.all (b.conn i)]; exact a.le _
  omega
theorem LeadOk.idem {J : List (Nat × Nat)} {L : Nat → Nat} (a : LeadOk J L) (i : Nat) : L (L i) = L i := (LeadOk.const a.all (a.conn i)).symm

/-- Two groups made one. -/
def unite (p : Nat × Nat) (L : Nat → Nat) (i : Nat) : Nat := if L i = max (L p.1) (L p.2) then min (L p.1) (L p.2) else L i
theorem unite_ok {J : List (Nat × Nat)} {L : Nat → Nat} (h : LeadOk J L) (p : Nat × Nat) : LeadOk (J ++ [p]) (unite p L) := by
  have up : ∀ q ∈ J, q ∈ J ++ [p] := fun q hq => List.mem_append_left _ hq
  have pj : Conn (J ++ [p]) p.1 p.2 := .join (by simp)
  have c1 := (h.conn p.1).mono up
  have c2 := (h.conn p.2).mono up
  refine ⟨fun q hq => ?_, fun i => ?_, fun i => ?_⟩
  · rcases List.mem_append.1 hq with hq | hq
    · unfold unite; rw [h.all q hq]
    · obtain rfl : q = p := by simpa using hq
      unfold unite
      by_cases e : L q.1 = L q.2
      · rw [e]
      · by_cases g : L q.1 ≤ L q.2
        · rw [Nat.max_eq_right g, Nat.min_eq_left g, if_neg e, if_pos rfl]
        · rw [Nat.max_eq_left (by omega), Nat.min_eq_right (by omega), if_pos rfl, if_neg (fun x => e x.symm)]
  · have := h.le i
    unfold unite
    by_cases e : L i = max (L p.1) (L p.2)
    · rw [if_pos e]; omega
    · rw [if_neg e]; exact this
  · have ci := (h.conn i).mono up
    unfold unite
    by_cases e : L i = max (L p.1) (L p.2)
    · rw [if_pos e]
      rw [e] at ci
      by_cases g : L p.1 ≤ L p.2
      · rw [Nat.max_eq_right g] at ci
        rw [Nat.min_eq_left g]
        exact ci.trans (c2.symm.trans (pj.symm.trans c1))
      · rw [Nat.max_eq_left (by omega)] at ci
        rw [Nat.min_eq_right (by omega)]
        exact ci.trans (c1.symm.trans (pj.trans c2))
    · rw [if_neg e]; exact ci
/-- The leaders behind the joins J. -/
def leadP (J : List (Nat × Nat)) : Nat → Nat := J.foldl (fun L p => unite p L) id
theorem leadP_snoc (J : List (Nat × Nat)) (p : Nat × Nat) : leadP (J ++ [p]) = unite p (leadP J) := by
  unfold leadP; rw [List.foldl_append]; rfl
theorem leadP_take {J : List (Nat × Nat)} {k : Nat} (hk : k < J.length) : leadP (J.take (k + 1)) = unite (J[k]?.getD (0, 0)) (leadP (J.take k)) := by
  rw [List.take_add_one, List.getElem?_eq_getElem hk]
  exact leadP_snoc _ _
theorem leadP_take_ok (J : List (Nat × Nat)) (k : Nat) : LeadOk (J.take k) (leadP (J.take k)) := by
  induction k with
  | zero => exact ⟨fun p hp => by simp at hp, fun _ => Nat.le_refl _, fun _ => .refl _⟩
  | succ k ih =>
    by_cases hk : k < J.length
    · have := unite_ok ih (J[k]?.getD (0, 0))
      rw [leadP_take hk, List.take_add_one, List.getElem?_eq_getElem hk]
      rw [List.getElem?_eq_getElem hk] at this
      exact this
    · rw [List.take_of_length_le (by omega)]
      rw [List.take_of_length_le (by omega)] at ih
      exact ih
theorem leadP_ok (J : List (Nat × Nat)) : LeadOk J (leadP J) := by
  have := leadP_take_ok J J.length
  rwa [List.take_of_length_le (Nat.le_refl _)] at this

/-- What the relaxing of one number keeps. -/
structure Below (J : List (Nat × Nat)) (L : Nat → Nat) : Prop where
  le : ∀ i, L i ≤ i
  conn : ∀ i, Conn J i (L i)
theorem below_id (J : List (Nat × Nat)) : Below J id := ⟨fun _ => Nat.le_refl _, fun _ => .refl _⟩
theorem below_put {J : List (Nat × Nat)} {L : Nat → Nat} (h : Below J L) {p : Nat × Nat} (hp : p ∈ J) {i m : Nat} (hi : i = p.1 ∨ i = p.2) (hm : m = L p.1 ∨ m = L p.2) (hl : m < L i) :
    Below J (fun j => if j = i then m else L j) := by
  have pj : Conn J p.1 p.2 := .join hp
  refine ⟨fun j => ?_, fun j => ?_⟩
  · have := h.le j
    by_cases e : j = i
    · simp only [if_pos e]; rw [e] at this ⊢; omega
    · simp only [if_neg e]; exact this
  · by_cases e : j = i
    · simp only [if_pos e]
      rw [e]
      have a : Conn J i p.1 := by rcases hi with rfl | rfl; exact .refl _; exact pj.symm
      rcases hm with rfl | rfl
      · exact a.trans (h.conn _)
      · exact a.trans (pj.trans (h.conn _))
    · simp only [if_neg e]; exact h.conn j
theorem below_done {J : List (Nat × Nat)} {L : Nat → Nat} (h : Below J L) (ha : ∀ p ∈ J, L p.1 = L p.2) (i : Nat) : L i = leadP J i :=
  LeadOk.unique ⟨ha, h.le, h.conn⟩ (leadP_ok J) i
/-- The groups of n tanks: of each leader in turn. -/
def grpN (n : Nat) (L : Nat → Nat) (a : Nat) : List Nat := (List.range n).filter fun i => decide (L i = a)
def grpsN (n : Nat) (L : Nat → Nat) : List (List Nat) := ((List.range n).filter fun a => decide (L a = a)).map (grpN n L)
theorem grpN_none {J : List (Nat × Nat)} {L : Nat → Nat} (h : LeadOk J L) {n a : Nat} (ha : a < n) : L a ≠ a ↔ grpN n L a = [] := by
  constructor
  · intro e
    unfold grpN
    rw [List.filter_eq_nil_iff]
    intro i _ hi
    have hi := of_decide_eq_true hi
    have := h.idem i
    rw [hi] at this
    exact e this
  · intro e q
    unfold grpN at e
    rw [List.filter_eq_nil_iff] at e
    exact e a (List.mem_range.2 ha) (decide_eq_true q)
end Go.Proofs.Ytlhpkpfnaepgbaa
