/- Tipping buckets, on numbers. -/
import Derived.Test.YtbgbglalibjncaaAll
namespace Go.Proofs.Ytbgbglalibjncaa
open Go.RowKit

theorem divBd {a c : Int} (h : 0 ≤ a) (hc : 2 ≤ c) : 0 ≤ a / c ∧ 2 * (a / c) ≤ a ∧ 0 ≤ a % c ∧ a % c < c := by
  have h1 : 0 ≤ a / c := Int.ediv_nonneg h (by omega)
  have h2 := Int.emod_nonneg a (show c ≠ 0 by omega)
  have h3 := Int.emod_lt_of_pos a (show 0 < c by omega)
  have h4 : c * (a / c) + a % c = a := Int.mul_ediv_add_emod a c
  have h5 : 2 * (a / c) ≤ c * (a / c) := Int.mul_le_mul_of_nonneg_right hc h1
  omega
theorem divBd1 {a c : Int} (h : 0 ≤ a) (hc : 1 ≤ c) : 0 ≤ a / c ∧ a / c ≤ a ∧ 0 ≤ a % c ∧ a % c < c := by
  have h1 : 0 ≤ a / c := Int.ediv_nonneg h (by omega)
  have h2 := Int.emod_nonneg a (show c ≠ 0 by omega)
  have h3 := Int.emod_lt_of_pos a (show 0 < c by omega)
  exact ⟨h1, Int.ediv_le_self c h, h2, h3⟩

def CapsOk (c : List Int) : Prop := (1 ≤ c.length ∧ c.length ≤ 6) ∧ ∀ j, j < c.length → 2 ≤ c[j]?.getD 0 ∧ c[j]?.getD 0 ≤ 60
def capsB (c : List Int) : Bool := inB 1 6 c.length && allB 2 60 c
theorem capsB_iff {c : List Int} : capsB c = true ↔ CapsOk c := by
  unfold capsB CapsOk
  rw [Bool.and_eq_true, inB_iff, allB_iff]
  constructor
  · rintro ⟨⟨a, b⟩, h⟩
    exact ⟨⟨by omega, by omega⟩, h⟩
  · rintro ⟨⟨a, b⟩, h⟩
    exact ⟨⟨by omega, by omega⟩, h⟩
def HeldOk (c h : List Int) : Prop := h.length = c.length ∧ ∀ j, j < c.length → 0 ≤ h[j]?.getD 0 ∧ h[j]?.getD 0 < c[j]?.getD 0
def heldB (c h : List Int) : Bool := capsB c && (decide (h.length = c.length) && (List.range c.length).all fun j => decide (0 ≤ h[j]?.getD 0 ∧ h[j]?.getD 0 < c[j]?.getD 0))
theorem heldB_iff {c h : List Int} : heldB c h = true ↔ CapsOk c ∧ HeldOk c h := by
  unfold heldB HeldOk
  simp [capsB_iff, List.all_eq_true]
theorem heldB_false {c h : List Int} : heldB c h = false ↔ ¬ (CapsOk c ∧ HeldOk c h) := by rw [← heldB_iff]; simp
def dropB (n : Int) : Bool := inB 0 1000000 n

/-- What comes into the bucket k of n drops if the buckets hold h; what this then holds. -/
def carK (c h : List Int) (n : Int) : Nat → Int
  | 0 => n
  | k + 1 => (carK c h n k + h[k]?.getD 0) / (c[k]?.getD 0)
def rstK (c h : List Int) (n : Int) (k : Nat) : Int := (carK c h n k + h[k]?.getD 0) % (c[k]?.getD 0)
theorem carK_succ (c h : List Int) (n : Int) (k : Nat) : carK c h n (k + 1) = (carK c h n k + h[k]?.getD 0) / (c[k]?.getD 0) := rfl
theorem rstK_def (c h : List Int) (n : Int) (k : Nat) : rstK c h n k = (carK c h n k + h[k]?.getD 0) % (c[k]?.getD 0) := rfl
def rstTo (c h : List Int) (n : Int) (k : Nat) : List Int := (List.range k).map (rstK c h n)
def tipTo (c h : List Int) (n : Int) (k : Nat) : List Int := (List.range k).map (fun j => carK c h n (j + 1))
theorem rstTo_length (c h : List Int) (n : Int) (k : Nat) : (rstTo c h n k).length = k := by simp [rstTo]
theorem tipTo_length (c h : List Int) (n : Int) (k : Nat) : (tipTo c h n k).length = k := by simp [tipTo]
theorem rstTo_succ (c h : List Int) (n : Int) (k : Nat) : rstTo c h n (k + 1) = rstTo c h n k ++ [rstK c h n k] := by simp [rstTo, List.range_succ]
theorem tipTo_succ (c h : List Int) (n : Int) (k : Nat) : tipTo c h n (k + 1) = tipTo c h n k ++ [carK c h n (k + 1)] := by simp [tipTo, List.range_succ]
theorem rstTo_get (c h : List Int) (n : Int) {k j : Nat} (hj : j < k) : (rstTo c h n k)[j]?.getD 0 = rstK c h n j := by simp [rstTo, hj]
theorem tipTo_get (c h : List Int) (n : Int) {k j : Nat} (hj : j < k) : (tipTo c h n k)[j]?.getD 0 = carK c h n (j + 1) := by simp [tipTo, hj]

/-- Buckets that hold nothing. -/
def zeros (L : Nat) : List Int := List.replicate L 0
theorem zeros_get (L k : Nat) : (zeros L)[k]?.getD 0 = 0 := by
  unfold zeros
  rw [List.getElem?_replicate]
  split <;> rfl
theorem zeros_length (L : Nat) : (zeros L).length = L := by simp [zeros]
theorem zeros_ok {c : List Int} (hc : CapsOk c) : HeldOk c (zeros c.length) := ⟨zeros_length _, fun j hj => by rw [zeros_get]; have := hc.2 j hj; omega⟩

theorem carK_bd {c h : List Int} {n : Int} (hc : CapsOk c) (hh : HeldOk c h) (hn : 0 ≤ n) (k : Nat) (hk : k ≤ c.length) : 0 ≤ carK c h n k ∧ carK c h n k ≤ n + 60 := by
  induction k with
  | zero => exact ⟨hn, by simp only [carK]; omega⟩
  | succ k ih =>
    have q := ih (by omega)
    have q1 := hc.2 k (by omega)
    have q2 := hh.2 k (by omega)
    have q3 := divBd (a := carK c h n k + h[k]?.getD 0) (c := c[k]?.getD 0) (by omega) q1.1
    unfold carK
    omega
theorem rstK_bd {c h : List Int} {n : Int} (hc : CapsOk c) (hh : HeldOk c h) (hn : 0 ≤ n) {k : Nat} (hk : k < c.length) : 0 ≤ rstK c h n k ∧ rstK c h n k < c[k]?.getD 0 := by
  have q := carK_bd hc hh hn k (by omega)
  have q1 := hc.2 k hk
  have q2 := hh.2 k hk
  have q3 := divBd (a := carK c h n k + h[k]?.getD 0) (c := c[k]?.getD 0) (by omega) q1.1
  unfold rstK
  omega
theorem rst_held {c h : List Int} {n : Int} (hc : CapsOk c) (hh : HeldOk c h) (hn : 0 ≤ n) : HeldOk c (rstTo c h n c.length) :=
  ⟨rstTo_length _ _ _ _, fun j hj => by rw [rstTo_get _ _ _ hj]; exact rstK_bd hc hh hn hj⟩
/-- Where no drop comes any more, all stays. -/
theorem carK_none {c h : List Int} {n : Int} (hc : CapsOk c) (hh : HeldOk c h) {m : Nat} (h0 : carK c h n m = 0) {j : Nat} (hm : m ≤ j) (hj : j ≤ c.length) : carK c h n j = 0 := by
  induction j with
  | zero => obtain rfl : m = 0 := by omega
            exact h0
  | succ j ih =>
    by_cases e : m = j + 1
    · exact e ▸ h0
    · have q := ih (by omega) (by omega)
      have q2 := hh.2 j (by omega)
      unfold carK
      rw [q, Int.zero_add]
      exact Int.ediv_eq_zero_of_lt q2.1 q2.2
theorem rstK_none {c h : List Int} {n : Int} (hc : CapsOk c) (hh : HeldOk c h) {m : Nat} (h0 : carK c h n m = 0) {j : Nat} (hm : m ≤ j) (hj : j < c.length) : rstK c h n j = h[j]?.getD 0 := by
  have q2 := hh.2 j hj
  unfold rstK
  rw [carK_none hc hh h0 hm (by omega), Int.zero_add]
  exact Int.emod_eq_of_lt q2.1 q2.2

/-- The least number of drops for what is held: behind the last j numbers, from the end on. -/
def numD (c h : List Int) (L : Nat) : Nat → Int
  | 0 => 0
  | j + 1 => numD c h L j * c[L - 1 - j]?.getD 0 + h[L - 1 - j]?.getD 0
theorem pow60 : (60 : Int) ^ 6 = 46656000000 := by decide
theorem pow60_le {j : Nat} (h : j ≤ 6) : (1 : Int) ≤ 60 ^ j ∧ (60 : Int) ^ j ≤ 46656000000 := by
  have : ∀ j : Nat, j < 7 → (1 : Int) ≤ 60 ^ j ∧ (60 : Int) ^ j ≤ 46656000000 := by decide
  exact this j (by omega)
theorem numD_bd {c h : List Int} (hc : CapsOk c) (hh : HeldOk c h) (j : Nat) (hj : j ≤ c.length) : 0 ≤ numD c h c.length j ∧ numD c h c.length j + 1 ≤ 60 ^ j := by
  induction j with
  | zero => exact ⟨by simp [numD], by simp [numD]⟩
  | succ j ih =>
    have q := ih (by omega)
    have q1 := hc.2 (c.length - 1 - j) (by omega)
    have q2 := hh.2 (c.length - 1 - j) (by omega)
    have q3 : 0 ≤ numD c h c.length j * c[c.length - 1 - j]?.getD 0 := Int.mul_nonneg q.1 (by omega)
    have q4 : (numD c h c.length j + 1) * c[c.length - 1 - j]?.getD 0 ≤ 60 ^ j * 60 := Int.mul_le_mul q.2 q1.2 (by omega) (by have := (pow60_le (j := j) (by have := hc.1.2; omega)).1; omega)
    rw [Int.add_mul, Int.one_mul] at q4
    have e : (60 : Int) ^ (j + 1) = 60 ^ j * 60 := Int.pow_succ _ _
    unfold numD
    rw [e]
    omega
theorem numD_step (c h : List Int) {L k : Nat} (hk : k < L) : numD c h L (L - k) = numD c h L (L - (k + 1)) * c[k]?.getD 0 + h[k]?.getD 0 := by
  obtain ⟨m, hm⟩ : ∃ m, L - k = m + 1 := ⟨L - k - 1, by omega⟩
  have e1 : L - (k + 1) = m := by omega
  have e2 : L - 1 - m = k := by omega
  rw [hm, e1]
  show numD c h L m * c[L - 1 - m]?.getD 0 + h[L - 1 - m]?.getD 0 = _
  rw [e2]
/-- Drops that have made what is held, and more drops. -/
theorem car_num {c h : List Int} {n : Int} (hc : CapsOk c) (hh : HeldOk c h) (k : Nat) (hk : k ≤ c.length) :
    carK c (zeros c.length) (numD c h c.length c.length + n) k = numD c h c.length (c.length - k) + carK c h n k := by
  induction k with
  | zero => rfl
  | succ k ih =>
    have q1 := hc.2 k (by omega)
    unfold carK
    rw [ih (by omega), zeros_get, numD_step c h (show k < c.length by omega)]
    rw [show numD c h c.length (c.length - (k + 1)) * c[k]?.getD 0 + h[k]?.getD 0 + carK c h n k + 0 = (carK c h n k + h[k]?.getD 0) + numD c h c.length (c.length - (k + 1)) * c[k]?.getD 0 by omega,
      Int.add_mul_ediv_right _ _ (by omega)]
    omega
theorem rst_num {c h : List Int} {n : Int} (hc : CapsOk c) (hh : HeldOk c h) : rstTo c (zeros c.length) (numD c h c.length c.length + n) c.length = rstTo c h n c.length := by
  refine ext_getD (by simp [rstTo_length]) fun j hj => ?_
  rw [rstTo_length] at hj
  have q1 := hc.2 j hj
  rw [rstTo_get _ _ _ hj, rstTo_get _ _ _ hj]
  unfold rstK
  rw [car_num hc hh j (by omega), zeros_get, numD_step c h hj]
  rw [show numD c h c.length (c.length - (j + 1)) * c[j]?.getD 0 + h[j]?.getD 0 + carK c h n j + 0 = (carK c h n j + h[j]?.getD 0) + numD c h c.length (c.length - (j + 1)) * c[j]?.getD 0 by omega,
    Int.add_mul_emod_self_right]

/-- The product of the first k caps. -/
def prodK (c : List Int) : Nat → Int
  | 0 => 1
  | k + 1 => prodK c k * c[k]?.getD 0
theorem prodK_bd {c : List Int} (hc : CapsOk c) (k : Nat) (hk : k ≤ c.length) : 1 ≤ prodK c k ∧ prodK c k ≤ 60 ^ k := by
  induction k with
  | zero => exact ⟨by simp [prodK], by simp [prodK]⟩
  | succ k ih =>
    have q := ih (by omega)
    have q1 := hc.2 k (by omega)
    have q2 : 1 * 1 ≤ prodK c k * c[k]?.getD 0 := Int.mul_le_mul q.1 (by omega) (by omega) (by omega)
    have q3 : prodK c k * c[k]?.getD 0 ≤ 60 ^ k * 60 := Int.mul_le_mul q.2 q1.2 (by omega) (by have := (pow60_le (j := k) (by have := hc.1.2; omega)).1; omega)
    have e : (60 : Int) ^ (k + 1) = 60 ^ k * 60 := Int.pow_succ _ _
    unfold prodK
    rw [e]
    omega
def wholeM (c : List Int) : Int := prodK c c.length
theorem wholeM_bd {c : List Int} (hc : CapsOk c) : 1 ≤ wholeM c ∧ wholeM c ≤ 46656000000 := by
  have q := prodK_bd hc c.length (Nat.le_refl _)
  have q1 := pow60_le hc.1.2
  unfold wholeM
  omega
def numM (c h : List Int) : Int := numD c h c.length c.length
theorem numM_bd {c h : List Int} (hc : CapsOk c) (hh : HeldOk c h) : 0 ≤ numM c h ∧ numM c h < 46656000000 := by
  have q := numD_bd hc hh c.length (Nat.le_refl _)
  have q1 := pow60_le hc.1.2
  unfold numM
  omega

/-- How many of the first n numbers have p, one behind the other from 0 on. -/
def lead (p : Nat → Bool) : Nat → Nat
  | 0 => 0
  | n + 1 => if lead p n = n ∧ p n = true then n + 1 else lead p n
theorem lead_eq {p : Nat → Bool} {n r : Nat} (hr : r ≤ n) (h1 : ∀ j, j < r → p j = true) (h2 : r < n → p r = false) : lead p n = r := by
  induction n generalizing r with
  | zero => unfold lead; omega
  | succ n ih =>
    by_cases e : r = n + 1
    · subst e
      have q := ih (r := n) (Nat.le_refl _) (fun j hj => h1 j (by omega)) (fun h => absurd h (by omega))
      unfold lead
      rw [if_pos ⟨q, h1 n (by omega)⟩]
    · have q := ih (r := r) (by omega) h1 (fun h => h2 (by omega))
      have q2 := h2 (by omega)
      unfold lead
      rw [q]
      refine if_neg fun h => ?_
      rw [← h.1, q2] at h
      exact absurd h.2 (by decide)
theorem lead_le (p : Nat → Bool) (n : Nat) : lead p n ≤ n := by
  induction n with
  | zero => exact Nat.le_refl _
  | succ n ih => unfold lead; split <;> omega
theorem lead_all {p : Nat → Bool} {n : Nat} (h : lead p n = n) : ∀ j, j < n → p j = true := by
  induction n with
  | zero => exact fun j hj => absurd hj (by omega)
  | succ n ih =>
    intro j hj
    have hl := lead_le p n
    unfold lead at h
    split at h
    · rename_i hh
      by_cases e : j = n
      · exact e ▸ hh.2
      · exact ih hh.1 j (by omega)
    · omega
theorem lead_congr {p q : Nat → Bool} {n : Nat} (h : ∀ j, j < n → (∀ i, i < j → q i = true) → p j = q j) : lead p n = lead q n := by
  induction n with
  | zero => rfl
  | succ n ih =>
    have e := ih (fun j hj => h j (by omega))
    unfold lead
    rw [e]
    by_cases hn : lead q n = n
    · rw [h n (by omega) (lead_all hn)]
    · rw [if_neg (fun hh => hn hh.1), if_neg (fun hh => hn hh.1)]

/-- One drop more, or x: what comes into the buckets is what came before and what comes then. -/
theorem car_more {c : List Int} {m x : Int} (hc : CapsOk c) (k : Nat) (hk : k ≤ c.length) :
    carK c (zeros c.length) (m + x) k = carK c (zeros c.length) m k + carK c (rstTo c (zeros c.length) m c.length) x k := by
  induction k with
  | zero => rfl
  | succ k ih =>
    have q1 := hc.2 k (by omega)
    have e := Int.mul_ediv_add_emod (carK c (zeros c.length) m k) (c[k]?.getD 0)
    conv => lhs; unfold carK
    rw [ih (by omega), zeros_get]
    have e1 : carK c (zeros c.length) m (k + 1) = carK c (zeros c.length) m k / c[k]?.getD 0 := by
      conv => lhs; unfold carK
      rw [zeros_get, Int.add_zero]
    have e2 : carK c (rstTo c (zeros c.length) m c.length) x (k + 1) = (carK c (rstTo c (zeros c.length) m c.length) x k + carK c (zeros c.length) m k % c[k]?.getD 0) / c[k]?.getD 0 := by
      conv => lhs; unfold carK
      rw [rstTo_get _ _ _ (show k < c.length by omega)]
      unfold rstK
      rw [zeros_get, Int.add_zero]
    rw [e1, e2]
    rw [show carK c (zeros c.length) m k + carK c (rstTo c (zeros c.length) m c.length) x k + 0 = (carK c (rstTo c (zeros c.length) m c.length) x k + carK c (zeros c.length) m k % c[k]?.getD 0) + (carK c (zeros c.length) m k / c[k]?.getD 0) * c[k]?.getD 0 by rw [Int.mul_comm (carK c (zeros c.length) m k / c[k]?.getD 0)]; omega,
      Int.add_mul_ediv_right _ _ (by omega)]
    omega
theorem rst_more {c : List Int} {m x : Int} (hc : CapsOk c) {k : Nat} (hk : k < c.length) :
    rstK c (zeros c.length) (m + x) k = rstK c (rstTo c (zeros c.length) m c.length) x k := by
  have q1 := hc.2 k hk
  have e := Int.mul_ediv_add_emod (carK c (zeros c.length) m k) (c[k]?.getD 0)
  rw [rstK_def c _ (m + x), rstK_def c _ x, car_more hc k (by omega), zeros_get, rstTo_get _ _ _ hk, rstK_def, zeros_get, Int.add_zero (carK c (zeros c.length) m k)]
  rw [show carK c (zeros c.length) m k + carK c (rstTo c (zeros c.length) m c.length) x k + 0 = (carK c (rstTo c (zeros c.length) m c.length) x k + carK c (zeros c.length) m k % c[k]?.getD 0) + (carK c (zeros c.length) m k / c[k]?.getD 0) * c[k]?.getD 0 by rw [Int.mul_comm (carK c (zeros c.length) m k / c[k]?.getD 0)]; omega,
    Int.add_mul_emod_self_right]
/-- One drop makes one bucket behind the other tip. -/
theorem tip_one {c h : List Int} (hc : CapsOk c) (hh : HeldOk c h) {k : Nat} (hk : k < c.length) (h1 : ∀ i, i < k → (carK c h 1 (i + 1) != 0) = true) :
    (rstK c h 1 k == 0) = (carK c h 1 (k + 1) != 0) := by
  have q : ∀ i, i ≤ k → carK c h 1 i = 1 := by
    intro i hi
    induction i with
    | zero => rfl
    | succ i ih =>
      have q1 := hc.2 i (by omega)
      have q2 := hh.2 i (by omega)
      have e := ih (by omega)
      have n0 := h1 i (by omega)
      have n1 : carK c h 1 (i + 1) ≠ 0 := by simpa using n0
      have e1 : carK c h 1 (i + 1) = (1 + h[i]?.getD 0) / c[i]?.getD 0 := by rw [carK_succ, e]
      rw [e1] at n1 ⊢
      by_cases hx : 1 + h[i]?.getD 0 = c[i]?.getD 0
      · rw [hx]; exact Int.ediv_self (by omega)
      · exact absurd (Int.ediv_eq_zero_of_lt (by omega) (by omega)) n1
  have q1 := hc.2 k hk
  have q2 := hh.2 k hk
  rw [rstK_def, carK_succ, q k (Nat.le_refl _)]
  by_cases hx : 1 + h[k]?.getD 0 = c[k]?.getD 0
  · rw [hx, Int.ediv_self (by omega), Int.emod_self]; rfl
  · rw [Int.ediv_eq_zero_of_lt (by omega) (by omega), Int.emod_eq_of_lt (by omega) (by omega)]
    simp
    omega
theorem tips_lead {c : List Int} {x : Int} (hc : CapsOk c) (hx : 1 ≤ x) :
    lead (fun j => rstK c (zeros c.length) x j == 0) c.length = lead (fun j => carK c (rstTo c (zeros c.length) (x - 1) c.length) 1 (j + 1) != 0) c.length := by
  refine lead_congr fun j hj hi => ?_
  have e : x = x - 1 + 1 := by omega
  have := tip_one hc (rst_held (n := x - 1) hc (zeros_ok hc) (by omega)) hj hi
  show (rstK c (zeros c.length) x j == 0) = (carK c (rstTo c (zeros c.length) (x - 1) c.length) 1 (j + 1) != 0)
  rw [← this, ← rst_more hc hj, ← e]
def tadB (c : List Int) (x : Int) : Bool := capsB c && inB 1 1000000 x
theorem tadB_iff {c : List Int} {x : Int} : tadB c x = true ↔ CapsOk c ∧ 1 ≤ x ∧ x ≤ 1000000 := by unfold tadB; rw [Bool.and_eq_true, capsB_iff, inB_iff]
def tadM (c : List Int) (x : Int) : Nat := if tadB c x = true then lead (fun j => rstK c (zeros c.length) x j == 0) c.length else 0
def tadI (c : List Int) (x : Int) : Int := (tadM c x : Nat)

def hafB (c : List Int) (n : Int) : Bool := capsB c && dropB n
theorem hafB_iff {c : List Int} {n : Int} : hafB c n = true ↔ CapsOk c ∧ 0 ≤ n ∧ n ≤ 1000000 := by unfold hafB dropB; rw [Bool.and_eq_true, capsB_iff, inB_iff]
def hafM (c : List Int) (n : Int) : List Int := if hafB c n = true then rstTo c (zeros c.length) n c.length else []
def tafM (c : List Int) (n : Int) : List Int := if hafB c n = true then tipTo c (zeros c.length) n c.length else []
def addB (c h : List Int) (n : Int) : Bool := heldB c h && dropB n
theorem addB_iff {c h : List Int} {n : Int} : addB c h n = true ↔ (CapsOk c ∧ HeldOk c h) ∧ 0 ≤ n ∧ n ≤ 1000000 := by unfold addB dropB; rw [Bool.and_eq_true, heldB_iff, inB_iff]
def addM (c h : List Int) (n : Int) : List Int := if addB c h n = true then rstTo c h n c.length else []
def backM (c h : List Int) (n : Int) : List Int := if addB c h n = true then rstTo c h (wholeM c - n % wholeM c) c.length else []
def dropsM (c h : List Int) : Int := if heldB c h = true then numM c h else 0
def roundM (c : List Int) : Int := if capsB c = true then wholeM c else 0
theorem hafM_small (c : List Int) (n : Int) : (hafM c n).length ≤ 1048576 := by
  unfold hafM
  split
  · rename_i h
    rw [rstTo_length]
    have := (hafB_iff.1 h).1.1.2
    omega
  · simp
theorem tafM_small (c : List Int) (n : Int) : (tafM c n).length ≤ 1048576 := by
  unfold tafM
  split
  · rename_i h
    rw [tipTo_length]
    have := (hafB_iff.1 h).1.1.2
    omega
  · simp
theorem addM_small (c h : List Int) (n : Int) : (addM c h n).length ≤ 1048576 := by
  unfold addM
  split
  · rename_i h
    rw [rstTo_length]
    have := (addB_iff.1 h).1.1.1.2
    omega
  · simp
theorem backM_small (c h : List Int) (n : Int) : (backM c h n).length ≤ 1048576 := by
  unfold backM
  split
  · rename_i h
    rw [rstTo_length]
    have := (addB_iff.1 h).1.1.1.2
    omega
  · simp
end Go.Proofs.Ytbgbglalibjncaa
