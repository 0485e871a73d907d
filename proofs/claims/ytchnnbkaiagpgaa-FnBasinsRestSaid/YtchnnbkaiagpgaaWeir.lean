/- Basins in a row, on numbers: a tick, many ticks, rest. A basin is (size, outlet, held). -/
import Derived.Test.YtchnnbkaiagpgaaAll
namespace Go.Proofs.Ytchnnbkaiagpgaa
open Go.RowKit

theorem bool_no {b : Bool} (h : ¬ b = true) : b = false := by simpa using h

def spB (b : Int × Int × Int) (x : Int) : Int := max 0 (b.2.2 + x - b.1)
def ruB (b : Int × Int × Int) (x : Int) : Int := min (b.2.2 + x - spB b x) b.2.1
def leB (b : Int × Int × Int) (x : Int) : Int := b.2.2 + x - spB b x - ruB b x
def stB (b : Int × Int × Int) (x : Int) : Int × Int × Int := (b.1, b.2.1, leB b x)
def ouB (b : Int × Int × Int) (x : Int) : Int := spB b x + ruB b x
def BasOk (b : Int × Int × Int) : Prop := 1 ≤ b.1 ∧ b.1 ≤ 1000 ∧ 0 ≤ b.2.1 ∧ b.2.1 ≤ 1000 ∧ 0 ≤ b.2.2 ∧ b.2.2 ≤ b.1
def basB (b : Int × Int × Int) : Bool := inB 1 1000 b.1 && inB 0 1000 b.2.1 && inB 0 b.1 b.2.2
theorem basB_iff {b : Int × Int × Int} : basB b = true ↔ BasOk b := by
  unfold basB BasOk
  rw [Bool.and_eq_true, Bool.and_eq_true, inB_iff, inB_iff, inB_iff]
  constructor <;> intro h <;> omega
def RowOk (l : List (Int × Int × Int)) : Prop := 1 ≤ l.length ∧ l.length ≤ 6 ∧ ∀ j, j < l.length → BasOk (l[j]?.getD (0, 0, 0))
def rowB (l : List (Int × Int × Int)) : Bool := inB 1 6 (l.length : Int) && l.all basB
theorem allBas_iff {l : List (Int × Int × Int)} : l.all basB = true ↔ ∀ j, j < l.length → basB (l[j]?.getD (0, 0, 0)) = true := by
  rw [List.all_eq_true]
  constructor
  · intro h j hj
    have := h l[j] (List.getElem_mem hj)
    simpa [List.getElem?_eq_getElem hj] using this
  · intro h x hx
    obtain ⟨j, hj, rfl⟩ := List.getElem_of_mem hx
    simpa [List.getElem?_eq_getElem hj] using h j hj
theorem rowB_iff {l : List (Int × Int × Int)} : rowB l = true ↔ RowOk l := by
  unfold rowB RowOk
  rw [Bool.and_eq_true, inB_iff, allBas_iff]
  constructor
  · rintro ⟨⟨a, b⟩, c⟩
    exact ⟨by omega, by omega, fun j hj => basB_iff.1 (c j hj)⟩
  · rintro ⟨a, b, c⟩
    exact ⟨⟨by omega, by omega⟩, fun j hj => basB_iff.2 (c j hj)⟩
def flowB (xs : List Int) : Bool := decide (xs.length ≤ 60) && allB 0 1000 xs
def FlowOk (xs : List Int) : Prop := xs.length ≤ 60 ∧ ∀ j, j < xs.length → 0 ≤ xs[j]?.getD 0 ∧ xs[j]?.getD 0 ≤ 1000
theorem flowB_iff {xs : List Int} : flowB xs = true ↔ FlowOk xs := by
  unfold flowB FlowOk
  rw [Bool.and_eq_true, decide_eq_true_eq, allB_iff]
def askB (l : List (Int × Int × Int)) (xs : List Int) : Bool := rowB l && flowB xs
theorem askB_iff {l : List (Int × Int × Int)} {xs : List Int} : askB l xs = true ↔ RowOk l ∧ FlowOk xs := by
  unfold askB
  rw [Bool.and_eq_true, rowB_iff, flowB_iff]

/-! ### one tick -/
theorem spB_bd {b : Int × Int × Int} {x : Int} (hb : BasOk b) (hx : 0 ≤ x) : 0 ≤ spB b x ∧ spB b x ≤ x := by
  unfold spB; unfold BasOk at hb; omega
theorem ruB_bd {b : Int × Int × Int} {x : Int} (hb : BasOk b) (hx : 0 ≤ x) : 0 ≤ ruB b x ∧ ruB b x ≤ 1000 ∧ ruB b x ≤ b.2.1 := by
  have _ := hx
  unfold ruB spB; unfold BasOk at hb; omega
theorem leB_bd {b : Int × Int × Int} {x : Int} (hb : BasOk b) (hx : 0 ≤ x) : 0 ≤ leB b x ∧ leB b x ≤ b.1 := by
  unfold leB ruB spB; unfold BasOk at hb; omega
theorem stB_ok {b : Int × Int × Int} {x : Int} (hb : BasOk b) (hx : 0 ≤ x) : BasOk (stB b x) := by
  have := leB_bd hb hx
  unfold stB
  unfold BasOk at hb ⊢
  simp only
  omega
theorem ouB_bd {b : Int × Int × Int} {x : Int} (hb : BasOk b) (hx : 0 ≤ x) : 0 ≤ ouB b x ∧ ouB b x ≤ x + 1000 := by
  have h1 := spB_bd hb hx
  have h2 := ruB_bd hb hx
  unfold ouB; omega

/-- What comes into the basin k. -/
def inK (l : List (Int × Int × Int)) (x : Int) : Nat → Int
  | 0 => x
  | k + 1 => ouB (l[k]?.getD (0, 0, 0)) (inK l x k)
def newK (l : List (Int × Int × Int)) (x : Int) (k : Nat) : List (Int × Int × Int) := (List.range k).map fun j => stB (l[j]?.getD (0, 0, 0)) (inK l x j)
def spsK (l : List (Int × Int × Int)) (x : Int) (k : Nat) : List Int := (List.range k).map fun j => spB (l[j]?.getD (0, 0, 0)) (inK l x j)
def tickL (l : List (Int × Int × Int)) (x : Int) : List (Int × Int × Int) := newK l x l.length
def giveL (l : List (Int × Int × Int)) (x : Int) : Int := inK l x l.length
theorem newK_length (l : List (Int × Int × Int)) (x : Int) (k : Nat) : (newK l x k).length = k := by simp [newK]
theorem spsK_length (l : List (Int × Int × Int)) (x : Int) (k : Nat) : (spsK l x k).length = k := by simp [spsK]
theorem tickL_length (l : List (Int × Int × Int)) (x : Int) : (tickL l x).length = l.length := newK_length _ _ _
theorem newK_succ (l : List (Int × Int × Int)) (x : Int) (k : Nat) : newK l x (k + 1) = newK l x k ++ [stB (l[k]?.getD (0, 0, 0)) (inK l x k)] := by simp [newK, List.range_succ]
theorem spsK_succ (l : List (Int × Int × Int)) (x : Int) (k : Nat) : spsK l x (k + 1) = spsK l x k ++ [spB (l[k]?.getD (0, 0, 0)) (inK l x k)] := by simp [spsK, List.range_succ]
theorem newK_get (l : List (Int × Int × Int)) (x : Int) (k j : Nat) (h : j < k) : (newK l x k)[j]?.getD (0, 0, 0) = stB (l[j]?.getD (0, 0, 0)) (inK l x j) := by simp [newK, h]
theorem spsK_get (l : List (Int × Int × Int)) (x : Int) (k j : Nat) (h : j < k) : (spsK l x k)[j]?.getD 0 = spB (l[j]?.getD (0, 0, 0)) (inK l x j) := by simp [spsK, h]
theorem tickL_get (l : List (Int × Int × Int)) (x : Int) (j : Nat) (h : j < l.length) : (tickL l x)[j]?.getD (0, 0, 0) = stB (l[j]?.getD (0, 0, 0)) (inK l x j) := newK_get _ _ _ _ h
theorem inK_bd {l : List (Int × Int × Int)} {x : Int} (hl : RowOk l) (hx : 0 ≤ x) (k : Nat) (hk : k ≤ l.length) : 0 ≤ inK l x k ∧ inK l x k ≤ x + 1000 * k := by
  induction k with
  | zero => exact ⟨hx, by simp [inK]⟩
  | succ k ih =>
    have q := ih (by omega)
    have := ouB_bd (hl.2.2 k (by omega)) q.1
    unfold inK
    omega
theorem tickL_ok {l : List (Int × Int × Int)} {x : Int} (hl : RowOk l) (hx : 0 ≤ x) : RowOk (tickL l x) := by
  refine ⟨by rw [tickL_length]; exact hl.1, by rw [tickL_length]; exact hl.2.1, fun j hj => ?_⟩
  rw [tickL_length] at hj
  rw [tickL_get _ _ _ hj]
  exact stB_ok (hl.2.2 j hj) (inK_bd hl hx j (by omega)).1

/-! ### many ticks -/
def rowK (l : List (Int × Int × Int)) (xs : List Int) : Nat → List (Int × Int × Int)
  | 0 => l
  | k + 1 => tickL (rowK l xs k) (xs[k]?.getD 0)
theorem rowK_length (l : List (Int × Int × Int)) (xs : List Int) (k : Nat) : (rowK l xs k).length = l.length := by
  induction k with
  | zero => rfl
  | succ k ih => unfold rowK; rw [tickL_length, ih]
theorem rowK_ok {l : List (Int × Int × Int)} {xs : List Int} (hl : RowOk l) (hx : FlowOk xs) (k : Nat) (hk : k ≤ xs.length) : RowOk (rowK l xs k) := by
  induction k with
  | zero => exact hl
  | succ k ih => exact tickL_ok (ih (by omega)) (hx.2 k (by omega)).1
def giveK (l : List (Int × Int × Int)) (xs : List Int) (t : Nat) : Int := giveL (rowK l xs t) (xs[t]?.getD 0)
def givesTo (l : List (Int × Int × Int)) (xs : List Int) (k : Nat) : List Int := (List.range k).map (giveK l xs)
def spillsAt (l : List (Int × Int × Int)) (xs : List Int) (t : Nat) : List Int := spsK (rowK l xs t) (xs[t]?.getD 0) l.length
def spillsTo (l : List (Int × Int × Int)) (xs : List Int) (k : Nat) : List (List Int) := (List.range k).map (spillsAt l xs)
def rowsTo (l : List (Int × Int × Int)) (xs : List Int) (k : Nat) : List (List (Int × Int × Int)) := (List.range k).map fun t => rowK l xs (t + 1)
theorem givesTo_length (l : List (Int × Int × Int)) (xs : List Int) (k : Nat) : (givesTo l xs k).length = k := by simp [givesTo]
theorem spillsTo_length (l : List (Int × Int × Int)) (xs : List Int) (k : Nat) : (spillsTo l xs k).length = k := by simp [spillsTo]
theorem rowsTo_length (l : List (Int × Int × Int)) (xs : List Int) (k : Nat) : (rowsTo l xs k).length = k := by simp [rowsTo]
theorem givesTo_succ (l : List (Int × Int × Int)) (xs : List Int) (k : Nat) : givesTo l xs (k + 1) = givesTo l xs k ++ [giveK l xs k] := by simp [givesTo, List.range_succ]
theorem spillsTo_succ (l : List (Int × Int × Int)) (xs : List Int) (k : Nat) : spillsTo l xs (k + 1) = spillsTo l xs k ++ [spillsAt l xs k] := by simp [spillsTo, List.range_succ]
theorem rowsTo_succ (l : List (Int × Int × Int)) (xs : List Int) (k : Nat) : rowsTo l xs (k + 1) = rowsTo l xs k ++ [rowK l xs (k + 1)] := by simp [rowsTo, List.range_succ]
theorem givesTo_get (l : List (Int × Int × Int)) (xs : List Int) (k j : Nat) (h : j < k) : (givesTo l xs k)[j]?.getD 0 = giveK l xs j := by simp [givesTo, h]
theorem giveK_bd {l : List (Int × Int × Int)} {xs : List Int} (hl : RowOk l) (hx : FlowOk xs) (t : Nat) (ht : t < xs.length) : 0 ≤ giveK l xs t ∧ giveK l xs t ≤ 7000 := by
  have h1 := rowK_ok hl hx t (by omega)
  have h2 := hx.2 t ht
  have := inK_bd h1 h2.1 (rowK l xs t).length (Nat.le_refl _)
  have h3 := h1.2.1
  unfold giveK giveL
  omega
/-- How much spills from the basin i at the tick t. -/
def spAt (l : List (Int × Int × Int)) (xs : List Int) (t i : Nat) : Int := spB ((rowK l xs t)[i]?.getD (0, 0, 0)) (inK (rowK l xs t) (xs[t]?.getD 0) i)
theorem spillsAt_get (l : List (Int × Int × Int)) (xs : List Int) (t j : Nat) (h : j < l.length) : (spillsAt l xs t)[j]?.getD 0 = spAt l xs t j := spsK_get _ _ _ _ h
theorem spillsAt_length (l : List (Int × Int × Int)) (xs : List Int) (t : Nat) : (spillsAt l xs t).length = l.length := spsK_length _ _ _
theorem spAt_bd {l : List (Int × Int × Int)} {xs : List Int} (hl : RowOk l) (hx : FlowOk xs) (t i : Nat) (ht : t < xs.length) (hi : i < l.length) : 0 ≤ spAt l xs t i ∧ spAt l xs t i ≤ 7000 := by
  have h1 := rowK_ok hl hx t (by omega)
  have h2 := hx.2 t ht
  have e := rowK_length l xs t
  have h3 := inK_bd h1 h2.1 i (by omega)
  have h4 := h1.2.1
  have h5 := spB_bd (h1.2.2 i (by omega)) h3.1
  unfold spAt
  omega
def spillK (l : List (Int × Int × Int)) (xs : List Int) (i : Nat) : Nat → Int
  | 0 => 0
  | t + 1 => spillK l xs i t + spAt l xs t i
theorem spillK_bd {l : List (Int × Int × Int)} {xs : List Int} (hl : RowOk l) (hx : FlowOk xs) (i : Nat) (hi : i < l.length) (t : Nat) (ht : t ≤ xs.length) : 0 ≤ spillK l xs i t ∧ spillK l xs i t ≤ 7000 * t := by
  induction t with
  | zero => exact ⟨by simp [spillK], by simp [spillK]⟩
  | succ t ih =>
    have h1 := ih (by omega)
    have h2 := spAt_bd hl hx t i (by omega) hi
    unfold spillK
    omega
/-- How much the first k basins hold. -/
def heldK (l : List (Int × Int × Int)) : Nat → Int
  | 0 => 0
  | k + 1 => heldK l k + (l[k]?.getD (0, 0, 0)).2.2
theorem heldK_bd {l : List (Int × Int × Int)} (hl : RowOk l) (k : Nat) (hk : k ≤ l.length) : 0 ≤ heldK l k ∧ heldK l k ≤ 1000 * k := by
  induction k with
  | zero => exact ⟨by simp [heldK], by simp [heldK]⟩
  | succ k ih =>
    have h1 := ih (by omega)
    have h2 := hl.2.2 k (by omega)
    unfold BasOk at h2
    unfold heldK
    omega
theorem heldK_past (l : List (Int × Int × Int)) (k : Nat) (hk : l.length ≤ k) : heldK l k = heldK l l.length := by
  induction k with
  | zero => have : l.length = 0 := by omega
            rw [this]
  | succ k ih =>
    by_cases e : l.length = k + 1
    · rw [e]
    · show heldK l k + (l[k]?.getD (0, 0, 0)).2.2 = heldK l l.length
      rw [ih (by omega), List.getElem?_eq_none (by omega)]
      simp
def heldS (l : List (Int × Int × Int)) : Int := heldK l l.length
theorem heldK_zero {l : List (Int × Int × Int)} (hl : RowOk l) (k : Nat) (hk : k ≤ l.length) : heldK l k = 0 ↔ ∀ j, j < k → (l[j]?.getD (0, 0, 0)).2.2 = 0 := by
  induction k with
  | zero => exact ⟨fun _ j hj => absurd hj (by omega), fun _ => rfl⟩
  | succ k ih =>
    have h1 := heldK_bd hl k (by omega)
    have h2 := hl.2.2 k (by omega)
    unfold BasOk at h2
    unfold heldK
    constructor
    · intro h j hj
      have h3 := (ih (by omega)).1 (by omega)
      by_cases e : j = k
      · subst e; omega
      · exact h3 j (by omega)
    · intro h
      have h3 := (ih (by omega)).2 (fun j hj => h j (by omega))
      have h4 := h k (by omega)
      omega

/-! ### rest -/
def goK (x : Int) (l : List (Int × Int × Int)) : Nat → List (Int × Int × Int)
  | 0 => l
  | n + 1 => tickL (goK x l n) x
theorem goK_length (x : Int) (l : List (Int × Int × Int)) (n : Nat) : (goK x l n).length = l.length := by
  induction n with
  | zero => rfl
  | succ n ih => unfold goK; rw [tickL_length, ih]
theorem goK_ok {x : Int} {l : List (Int × Int × Int)} (hl : RowOk l) (hx : 0 ≤ x) (n : Nat) : RowOk (goK x l n) := by
  induction n with
  | zero => exact hl
  | succ n ih => exact tickL_ok ih hx
theorem inK_cons (b : Int × Int × Int) (t : List (Int × Int × Int)) (x : Int) (k : Nat) : inK (b :: t) x (k + 1) = inK t (ouB b x) k := by
  induction k with
  | zero => rfl
  | succ k ih =>
    show ouB ((b :: t)[k + 1]?.getD (0, 0, 0)) (inK (b :: t) x (k + 1)) = ouB (t[k]?.getD (0, 0, 0)) (inK t (ouB b x) k)
    rw [ih]
    simp
theorem tickL_cons (b : Int × Int × Int) (t : List (Int × Int × Int)) (x : Int) : tickL (b :: t) x = stB b x :: tickL t (ouB b x) := by
  unfold tickL newK
  rw [List.length_cons, List.range_succ_eq_map, List.map_cons, List.map_map]
  congr 1
  apply List.map_congr_left
  intro j _
  simp [inK_cons]
/-- How far a basin is from rest. -/
def rkB (x : Int) (b : Int × Int × Int) : Nat := if x < b.2.1 then b.2.2.toNat else (b.2.2 - max 0 (b.1 - b.2.1)).natAbs
theorem rkB_lt {x : Int} {b : Int × Int × Int} (hb : BasOk b) : rkB x b < 1001 := by
  unfold rkB; unfold BasOk at hb
  split <;> omega
theorem rkB_step {x : Int} {b : Int × Int × Int} (hb : BasOk b) (hx : 0 ≤ x) (h : stB b x ≠ b) : rkB x (stB b x) < rkB x b := by
  have hne : leB b x ≠ b.2.2 := fun e => h (by unfold stB; rw [e])
  unfold leB ruB spB at hne
  unfold BasOk at hb
  unfold rkB stB leB ruB spB
  simp only
  split <;> omega
def muL (x : Int) : List (Int × Int × Int) → Nat
  | [] => 0
  | b :: t => rkB x b * 1001 ^ t.length + muL (ouB b x) t
theorem muL_lt {l : List (Int × Int × Int)} (hl : ∀ b ∈ l, BasOk b) (x : Int) : muL x l < 1001 ^ l.length := by
  induction l generalizing x with
  | nil => simp [muL]
  | cons b t ih =>
    have h1 := ih (fun c hc => hl c (List.mem_cons_of_mem _ hc)) (ouB b x)
    have h2 := rkB_lt (x := x) (hl b List.mem_cons_self)
    unfold muL
    rw [List.length_cons, Nat.pow_succ]
    generalize 1001 ^ t.length = p at *
    generalize muL (ouB b x) t = m at *
    generalize rkB x b = r at *
    have : r * p ≤ 1000 * p := Nat.mul_le_mul_right p (by omega)
    omega
theorem muL_step {l : List (Int × Int × Int)} (hl : ∀ b ∈ l, BasOk b) {x : Int} (hx : 0 ≤ x) (h : tickL l x ≠ l) : muL x (tickL l x) < muL x l := by
  induction l generalizing x with
  | nil => exact absurd rfl h
  | cons b t ih =>
    rw [tickL_cons] at h ⊢
    have hb := hl b List.mem_cons_self
    have ht : ∀ c ∈ t, BasOk c := fun c hc => hl c (List.mem_cons_of_mem _ hc)
    have ho := (ouB_bd hb hx).1
    unfold muL
    rw [tickL_length]
    by_cases e : stB b x = b
    · have e' : tickL t (ouB b x) ≠ t := fun e' => h (by rw [e, e'])
      have := ih ht ho e'
      rw [e]
      omega
    · have h1 := rkB_step hb hx e
      have hall : ∀ c ∈ tickL t (ouB b x), BasOk c := by
        intro c hc
        unfold tickL newK at hc
        obtain ⟨j, hj, rfl⟩ := List.mem_map.1 hc
        have hj' : j < t.length := List.mem_range.1 hj
        have hin : 0 ≤ inK t (ouB b x) j := by
          clear hc hj
          induction j with
          | zero => exact ho
          | succ j ihj =>
            have := ihj (by omega)
            refine (ouB_bd ?_ this).1
            have : t[j]?.getD (0, 0, 0) = t[j] := by simp [List.getElem?_eq_getElem (show j < t.length by omega)]
            rw [this]
            exact ht _ (List.getElem_mem _)
        refine stB_ok ?_ hin
        have : t[j]?.getD (0, 0, 0) = t[j] := by simp [List.getElem?_eq_getElem hj']
        rw [this]
        exact ht _ (List.getElem_mem _)
      have h2 := muL_lt hall (ouB (stB b x) x)
      rw [tickL_length] at h2
      generalize muL (ouB (stB b x) x) (tickL t (ouB b x)) = m at *
      generalize muL (ouB b x) t = m' at *
      generalize 1001 ^ t.length = p at *
      generalize rkB x (stB b x) = r at *
      generalize rkB x b = r' at *
      have : (r + 1) * p ≤ r' * p := Nat.mul_le_mul_right p h1
      rw [Nat.add_mul] at this
      omega
theorem RowOk.mem {l : List (Int × Int × Int)} (h : RowOk l) : ∀ b ∈ l, BasOk b := by
  intro b hb
  obtain ⟨j, hj, rfl⟩ := List.getElem_of_mem hb
  have := h.2.2 j hj
  simpa [List.getElem?_eq_getElem hj] using this
theorem muL_small {l : List (Int × Int × Int)} (hl : RowOk l) (x : Int) : muL x l < 1010000000000000000 := by
  have h1 := muL_lt hl.mem x
  have h2 : 1001 ^ l.length ≤ 1001 ^ 6 := Nat.pow_le_pow_right (by omega) hl.2.1
  have h3 : (1001 : Nat) ^ 6 < 1010000000000000000 := by decide
  omega
/-- Behind n ticks nothing changes any more, and not before. -/
def Rest (x : Int) (l : List (Int × Int × Int)) (n : Nat) : Prop := tickL (goK x l n) x = goK x l n ∧ ∀ m, m < n → tickL (goK x l m) x ≠ goK x l m
theorem Rest.unique {x : Int} {l : List (Int × Int × Int)} {n m : Nat} (h : Rest x l n) (k : Rest x l m) : n = m := by
  rcases Nat.lt_trichotomy n m with e | e | e
  · exact absurd h.1 (k.2 n e)
  · exact e
  · exact absurd k.1 (h.2 m e)
noncomputable def restN (x : Int) (l : List (Int × Int × Int)) : Nat := by
  classical exact if h : ∃ n, Rest x l n then Classical.choose h else 0
theorem Rest.eq {x : Int} {l : List (Int × Int × Int)} {n : Nat} (h : Rest x l n) : restN x l = n := by
  unfold restN
  have k : ∃ n, Rest x l n := ⟨n, h⟩
  rw [dif_pos k]
  exact (Classical.choose_spec k).unique h
/-- On the way to rest. -/
structure Way (x : Int) (l : List (Int × Int × Int)) (n : Nat) : Prop where
  not : ∀ m, m < n → tickL (goK x l m) x ≠ goK x l m
  low : n + muL x (goK x l n) ≤ muL x l
theorem Way.zero (x : Int) (l : List (Int × Int × Int)) : Way x l 0 := ⟨fun m hm => absurd hm (by omega), by simp [goK]⟩
theorem Way.succ {x : Int} {l : List (Int × Int × Int)} {n : Nat} (hl : RowOk l) (hx : 0 ≤ x) (h : Way x l n) (hne : tickL (goK x l n) x ≠ goK x l n) : Way x l (n + 1) ∧ muL x (goK x l (n + 1)) < muL x (goK x l n) := by
  have h1 := muL_step (goK_ok hl hx n).mem hx hne
  have h2 := h.low
  refine ⟨⟨fun m hm => ?_, ?_⟩, h1⟩
  · by_cases e : m = n
    · subst e; exact hne
    · exact h.not m (by omega)
  · show n + 1 + muL x (tickL (goK x l n) x) ≤ muL x l
    omega
theorem Way.small {x : Int} {l : List (Int × Int × Int)} {n : Nat} (hl : RowOk l) (h : Way x l n) : n < 1010000000000000000 := by
  have := h.low
  have := muL_small hl x
  omega
theorem Way.rest {x : Int} {l : List (Int × Int × Int)} {n : Nat} (h : Way x l n) (e : tickL (goK x l n) x = goK x l n) : Rest x l n := ⟨e, h.not⟩
/-- An empty row is at rest without flow. -/
theorem empty_rest {l : List (Int × Int × Int)} (hl : RowOk l) (h : heldS l = 0) : tickL l 0 = l := by
  have h0 := (heldK_zero hl l.length (Nat.le_refl _)).1 h
  have hin : ∀ k, k ≤ l.length → inK l 0 k = 0 := by
    intro k hk
    induction k with
    | zero => rfl
    | succ k ih =>
      unfold inK
      rw [ih (by omega)]
      have h1 := h0 k (by omega)
      have h2 := hl.2.2 k (by omega)
      unfold BasOk at h2
      unfold ouB ruB spB
      omega
  apply List.ext_getElem (tickL_length _ _)
  intro j h1 h2
  have e1 : (tickL l 0)[j] = (tickL l 0)[j]?.getD (0, 0, 0) := by simp [List.getElem?_eq_getElem h1]
  have e2 : l[j] = l[j]?.getD (0, 0, 0) := by simp [List.getElem?_eq_getElem h2]
  rw [e1, e2, tickL_get _ _ _ h2, hin j (by omega)]
  have h3 := h0 j h2
  have h4 := hl.2.2 j h2
  generalize l[j]?.getD (0, 0, 0) = b at *
  obtain ⟨a, o, u⟩ := b
  unfold BasOk at h4
  simp only at h3 h4
  subst h3
  unfold stB leB ruB spB
  simp only [Prod.mk.injEq, true_and]
  omega
theorem goK_stay {x : Int} {l : List (Int × Int × Int)} {n : Nat} (h : tickL (goK x l n) x = goK x l n) : ∀ m, n ≤ m → goK x l m = goK x l n := by
  intro m hm
  obtain ⟨d, rfl⟩ := Nat.exists_eq_add_of_le hm
  induction d with
  | zero => rfl
  | succ d ih =>
    show tickL (goK x l (n + d)) x = _
    rw [ih (by omega), h]
noncomputable def tteM (l : List (Int × Int × Int)) : Int × Bool :=
  if rowB l then (if heldS (goK 0 l (restN 0 l)) = 0 then (restN 0 l, true) else (0, false)) else (0, false)
def heldsL (l : List (Int × Int × Int)) : List Int := (List.range l.length).map fun j => (l[j]?.getD (0, 0, 0)).2.2
end Go.Proofs.Ytchnnbkaiagpgaa
