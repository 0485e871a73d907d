/- Buckets count: what the law says of the numbers. -/
import Derived.Test.YtbgbglalibjncaaBuck
namespace Go.Proofs.Ytbgbglalibjncaa
open Go.RowKit

theorem car_zero {c h : List Int} (hc : CapsOk c) (hh : HeldOk c h) (k : Nat) (hk : k ≤ c.length) : carK c h 0 k = 0 :=
  carK_none hc hh (m := 0) rfl (Nat.zero_le _) hk
theorem rst_zero {c h : List Int} (hc : CapsOk c) (hh : HeldOk c h) : rstTo c h 0 c.length = h := by
  refine ext_getD (by rw [rstTo_length, hh.1]) fun j hj => ?_
  rw [rstTo_length] at hj
  rw [rstTo_get _ _ _ hj]
  exact rstK_none hc hh (m := 0) rfl (Nat.zero_le _) hj
/-- What is held comes of a number of drops. -/
theorem held_num {c h : List Int} (hc : CapsOk c) (hh : HeldOk c h) : rstTo c (zeros c.length) (numM c h) c.length = h := by
  have e := rst_num (n := 0) hc hh
  rw [Int.add_zero, rst_zero hc hh] at e
  exact e
theorem held_add {c h : List Int} (hc : CapsOk c) (hh : HeldOk c h) (n : Int) : rstTo c h n c.length = rstTo c (zeros c.length) (numM c h + n) c.length := (rst_num hc hh).symm
theorem zeros_more {c : List Int} (hc : CapsOk c) (m x : Int) : rstTo c (rstTo c (zeros c.length) m c.length) x c.length = rstTo c (zeros c.length) (m + x) c.length := by
  refine ext_getD (by simp [rstTo_length]) fun j hj => ?_
  rw [rstTo_length] at hj
  rw [rstTo_get _ _ _ hj, rstTo_get _ _ _ hj]
  exact (rst_more hc hj).symm
/-- Drops behind drops. -/
theorem held_more {c h : List Int} (hc : CapsOk c) (hh : HeldOk c h) (a b : Int) : rstTo c (rstTo c h a c.length) b c.length = rstTo c h (a + b) c.length := by
  rw [held_add hc hh a, zeros_more hc, held_add hc hh (a + b), Int.add_assoc]

theorem car_prod {c : List Int} {n : Int} (hc : CapsOk c) (_hn : 0 ≤ n) (k : Nat) (hk : k ≤ c.length) : carK c (zeros c.length) n k = n / prodK c k := by
  induction k with
  | zero => simp [carK, prodK]
  | succ k ih =>
    have q := prodK_bd hc k (by omega)
    unfold carK prodK
    rw [ih (by omega), zeros_get, Int.add_zero, Int.ediv_ediv_of_nonneg (by omega)]
/-- The product of the numbers from the k-th on. -/
def tailP (c : List Int) : Nat → Int
  | 0 => 1
  | j + 1 => tailP c j * c[c.length - 1 - j]?.getD 0
theorem tail_step (c : List Int) {k : Nat} (hk : k < c.length) : tailP c (c.length - k) = tailP c (c.length - (k + 1)) * c[k]?.getD 0 := by
  obtain ⟨m, hm⟩ : ∃ m, c.length - k = m + 1 := ⟨c.length - k - 1, by omega⟩
  have e1 : c.length - (k + 1) = m := by omega
  have e2 : c.length - 1 - m = k := by omega
  rw [hm, e1]
  show tailP c m * c[c.length - 1 - m]?.getD 0 = _
  rw [e2]
theorem tail_pos {c : List Int} (hc : CapsOk c) (j : Nat) (hj : j ≤ c.length) : 1 ≤ tailP c j := by
  induction j with
  | zero => simp [tailP]
  | succ j ih =>
    have q := ih (by omega)
    have q1 := hc.2 (c.length - 1 - j) (by omega)
    have q2 : 1 * 1 ≤ tailP c j * c[c.length - 1 - j]?.getD 0 := Int.mul_le_mul q (by omega) (by omega) (by omega)
    unfold tailP; omega
theorem whole_parts (c : List Int) (k : Nat) (hk : k ≤ c.length) : wholeM c = prodK c k * tailP c (c.length - k) := by
  induction k with
  | zero =>
    have : ∀ j, j ≤ c.length → prodK c (c.length - j) * tailP c j = wholeM c := by
      intro j hj
      induction j with
      | zero => simp [tailP, wholeM]
      | succ j ih =>
        have e := ih (by omega)
        obtain ⟨m, hm⟩ : ∃ m, c.length - j = m + 1 := ⟨c.length - j - 1, by omega⟩
        have e1 : c.length - (j + 1) = m := by omega
        have e2 : c.length - 1 - j = m := by omega
        rw [hm] at e
        rw [← e, e1]
        show prodK c m * (tailP c j * c[c.length - 1 - j]?.getD 0) = prodK c m * c[m]?.getD 0 * tailP c j
        rw [e2]; grind
    have e := this c.length (Nat.le_refl _)
    rw [Nat.sub_self] at e
    rw [← e]; rfl
  | succ k ih =>
    rw [ih (by omega), tail_step c (by omega)]
    show prodK c k * (tailP c (c.length - (k + 1)) * c[k]?.getD 0) = prodK c k * c[k]?.getD 0 * tailP c (c.length - (k + 1))
    grind
theorem emod_parts (x a b : Int) (ha : 0 < a) (hb : 0 < b) : x % (b * a) = x / a % b * a + x % a := by
  have e1 := Int.mul_ediv_add_emod x a
  have e2 := Int.mul_ediv_add_emod (x / a) b
  have b1 := Int.emod_nonneg x (show a ≠ 0 by omega)
  have b2 := Int.emod_lt_of_pos x ha
  have b3 := Int.emod_nonneg (x / a) (show b ≠ 0 by omega)
  have b4 := Int.emod_lt_of_pos (x / a) hb
  have k1 : (x / a % b) * a ≤ (b - 1) * a := Int.mul_le_mul_of_nonneg_right (by omega) (by omega)
  have k2 : 0 ≤ (x / a % b) * a := Int.mul_nonneg b3 (by omega)
  have e3 : x = (x / a % b * a + x % a) + (x / a / b) * (b * a) := by grind
  have e4 : (b - 1) * a = b * a - a := by grind
  rw [show x % (b * a) = ((x / a % b * a + x % a) + (x / a / b) * (b * a)) % (b * a) by rw [← e3], Int.add_mul_emod_self_right]
  exact Int.emod_eq_of_lt (by omega) (by omega)
/-- The number of what is held behind n drops. -/
theorem num_held {c : List Int} {n : Int} (hc : CapsOk c) (hn : 0 ≤ n) : numM c (rstTo c (zeros c.length) n c.length) = n % wholeM c := by
  have key : ∀ j, j ≤ c.length → numD c (rstTo c (zeros c.length) n c.length) c.length j = n / prodK c (c.length - j) % tailP c j := by
    intro j hj
    induction j with
    | zero => simp [numD, tailP]
    | succ j ih =>
      obtain ⟨k, hk⟩ : ∃ k, c.length - (j + 1) = k := ⟨_, rfl⟩
      have e2 : c.length - 1 - j = k := by omega
      have e3 : c.length - j = k + 1 := by omega
      have hkl : k < c.length := by omega
      have q := hc.2 k hkl
      have qp := prodK_bd hc k (by omega)
      have qt := tail_pos hc j (by omega)
      show numD c (rstTo c (zeros c.length) n c.length) c.length j * c[c.length - 1 - j]?.getD 0 + (rstTo c (zeros c.length) n c.length)[c.length - 1 - j]?.getD 0 = n / prodK c (c.length - (j + 1)) % (tailP c j * c[c.length - 1 - j]?.getD 0)
      rw [ih (by omega), e2, e3, hk, rstTo_get _ _ _ hkl, rstK_def, zeros_get, Int.add_zero, car_prod hc hn k (by omega), emod_parts _ _ _ (by omega) (by omega)]
      have e4 : n / prodK c (k + 1) = n / prodK c k / c[k]?.getD 0 := by
        show n / (prodK c k * c[k]?.getD 0) = _
        rw [Int.ediv_ediv_of_nonneg (by omega)]
      rw [e4]
  have e := key c.length (Nat.le_refl _)
  rw [Nat.sub_self] at e
  unfold numM
  rw [e, show prodK c 0 = 1 from rfl, Int.ediv_one]
  have w := whole_parts c 0 (Nat.zero_le _)
  rw [show prodK c 0 = 1 from rfl, Int.one_mul, Nat.sub_zero] at w
  rw [w]
/-- A whole round leaves all as before. -/
theorem held_round {c : List Int} {m n : Int} (hc : CapsOk c) (hm : 0 ≤ m) (hn : 0 ≤ n) (h : m % wholeM c = n % wholeM c) : rstTo c (zeros c.length) m c.length = rstTo c (zeros c.length) n c.length := by
  have a := held_num hc (rst_held (n := m) hc (zeros_ok hc) hm)
  have b := held_num hc (rst_held (n := n) hc (zeros_ok hc) hn)
  rw [← a, ← b, num_held hc hm, num_held hc hn, h]
theorem held_back {c h : List Int} {n : Int} (hc : CapsOk c) (hh : HeldOk c h) (hn : 0 ≤ n) : rstTo c (rstTo c h n c.length) (wholeM c - n % wholeM c) c.length = h ∧ rstTo c (rstTo c h (wholeM c - n % wholeM c) c.length) n c.length = h := by
  have w := wholeM_bd hc
  have q1 := Int.emod_nonneg n (show wholeM c ≠ 0 by omega)
  have q2 := Int.emod_lt_of_pos n (show 0 < wholeM c by omega)
  have b := numM_bd hc hh
  have base : rstTo c h (n + (wholeM c - n % wholeM c)) c.length = h := by
    rw [held_add hc hh]
    have e := held_num hc hh
    refine Eq.trans (held_round hc (by omega) b.1 ?_) e
    have d := Int.mul_ediv_add_emod n (wholeM c)
    rw [show numM c h + (n + (wholeM c - n % wholeM c)) = numM c h + (n / wholeM c + 1) * wholeM c by grind, Int.add_mul_emod_self_right]
  refine ⟨by rw [held_more hc hh]; exact base, by rw [held_more hc hh, Int.add_comm]; exact base⟩
theorem car_one {c h : List Int} (hc : CapsOk c) (hh : HeldOk c h) (k : Nat) (hk : k ≤ c.length) : 0 ≤ carK c h 1 k ∧ carK c h 1 k ≤ 1 := by
  induction k with
  | zero => exact ⟨by simp [carK], by simp [carK]⟩
  | succ k ih =>
    have q := ih (by omega)
    have q1 := hc.2 k (by omega)
    have q2 := hh.2 k (by omega)
    unfold carK
    refine ⟨Int.ediv_nonneg (by omega) (by omega), ?_⟩
    have : (carK c h 1 k + h[k]?.getD 0) / c[k]?.getD 0 < 2 := by rw [Int.ediv_lt_iff_lt_mul (by omega)]; omega
    omega
theorem lead_before {p : Nat → Bool} {n j : Nat} (h : j < lead p n) : p j = true := by
  induction n with
  | zero => unfold lead at h; omega
  | succ n ih =>
    unfold lead at h
    split at h
    · rename_i hh
      by_cases e : j = n
      · exact e ▸ hh.2
      · exact lead_all hh.1 j (by omega)
    · exact ih h
theorem lead_at {p : Nat → Bool} {n : Nat} (h : lead p n < n) : p (lead p n) = false := by
  induction n with
  | zero => omega
  | succ n ih =>
    by_cases hh : lead p n = n ∧ p n = true
    · unfold lead at h
      rw [if_pos hh] at h; omega
    · have e : lead p (n + 1) = lead p n := by
        conv => lhs; unfold lead
        rw [if_neg hh]
      rw [e]
      by_cases hl : lead p n = n
      · have q : p n = false := by
          cases hp : p n with
          | true => exact absurd ⟨hl, hp⟩ hh
          | false => rfl
        rw [hl]; exact q
      · exact ih (by have := lead_le p n; omega)
/-- The tips of the last drop. -/
theorem tips_last {c : List Int} {n : Int} (hc : CapsOk c) (hn : 1 ≤ n) {i : Nat} (hi : i < c.length) :
    carK c (zeros c.length) n (i + 1) = carK c (zeros c.length) (n - 1) (i + 1) + (if i < lead (fun j => rstK c (zeros c.length) n j == 0) c.length then 1 else 0) := by
  have hh := rst_held (n := n - 1) hc (zeros_ok hc) (by omega)
  have e := car_more (m := n - 1) (x := 1) hc (i + 1) (by omega)
  rw [show n - 1 + 1 = n by omega] at e
  rw [e, tips_lead hc hn]
  have b := car_one hc hh (i + 1) (by omega)
  by_cases hlt : i < lead (fun j => carK c (rstTo c (zeros c.length) (n - 1) c.length) 1 (j + 1) != 0) c.length
  · rw [if_pos hlt]
    have q := lead_before hlt
    have q2 : ¬ carK c (rstTo c (zeros c.length) (n - 1) c.length) 1 (i + 1) = 0 := by simpa using q
    omega
  · rw [if_neg hlt]
    have hl : lead (fun j => carK c (rstTo c (zeros c.length) (n - 1) c.length) 1 (j + 1) != 0) c.length < c.length := by omega
    have q := lead_at hl
    have q2 : carK c (rstTo c (zeros c.length) (n - 1) c.length) 1 (lead (fun j => carK c (rstTo c (zeros c.length) (n - 1) c.length) 1 (j + 1) != 0) c.length + 1) = 0 := by simpa using q
    have q3 := carK_none hc hh q2 (j := i + 1) (by omega) (by omega)
    rw [q3]
end Go.Proofs.Ytbgbglalibjncaa
