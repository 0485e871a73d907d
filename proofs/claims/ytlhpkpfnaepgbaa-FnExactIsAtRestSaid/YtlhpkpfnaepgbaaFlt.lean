/- Single precision: numbers between whole ones stay so, and what is not below zero is no NaN. Nothing here speaks of the program. -/
import Derived.Test.YtlhpkpfnaepgbaaBase
import Derived.WalkLawsBesides
import Derived.Laws.FloatArith
namespace Go.Proofs.Ytlhpkpfnaepgbaa
open Ieee

/-- The word stands for a number from lo to hi, not below zero. -/
def Rng (lo hi : Nat) (x : Nat) : Prop := ∃ m d : Nat, single.read x = .number false m (-(d : Int)) ∧ d ≤ 149 ∧ m ≤ 16777216 ∧ lo * 2 ^ d ≤ m ∧ m ≤ hi * 2 ^ d

theorem cut_between (way : Toward) (hw : way = .even ∨ way = .zero) (n drop a b : Nat) (h1 : a * 2 ^ drop ≤ n) (h2 : n ≤ b * 2 ^ drop) : a ≤ way.cut false n drop ∧ way.cut false n drop ≤ b := by
  have key : ∀ gap, 0 < gap → a * gap ≤ n → n ≤ b * gap → a ≤ n / gap ∧ (n / gap < b ∨ (n / gap = b ∧ n % gap = 0)) := by
    intro gap hg k1 k2
    refine ⟨(Nat.le_div_iff_mul_le hg).2 k1, ?_⟩
    by_cases hn : n = b * gap
    · right; subst hn; exact ⟨Nat.mul_div_cancel _ hg, Nat.mul_mod_left _ _⟩
    · left; exact (Nat.div_lt_iff_lt_mul hg).2 (by omega)
  by_cases hd : drop ≤ n.log2 + 2
  · have hg : 0 < (2 : Nat) ^ drop := Nat.two_pow_pos _
    obtain ⟨k1, k2⟩ := key _ hg h1 h2
    unfold Toward.cut
    rw [Nat.min_eq_left hd, Nat.one_shiftLeft]
    rcases hw with rfl | rfl
    · simp only
      generalize n / 2 ^ drop = q at *
      generalize n % 2 ^ drop = r at *
      generalize 2 ^ drop = g at *
      have hb : ∀ c : Bool, c.toNat ≤ 1 := by intro c; cases c <;> decide
      rcases k2 with k2 | ⟨k2, rfl⟩
      · have := hb (decide (g < 2 * r) || (g == 2 * r && q % 2 == 1)); omega
      · have e : (decide (g < 2 * 0) || (g == 2 * 0 && q % 2 == 1)) = false := by
          simp; omega
        rw [e]; simp; omega
    · simp; omega
  · have hlt : n < 2 ^ (n.log2 + 1) := Nat.lt_log2_self
    have hle : (2 : Nat) ^ (n.log2 + 2) ≤ 2 ^ drop := Nat.pow_le_pow_right (by decide) (by omega)
    have h22 : (2 : Nat) ^ (n.log2 + 2) = 2 * 2 ^ (n.log2 + 1) := by rw [Nat.pow_succ, Nat.mul_comm]
    have ha : a = 0 := by
      rcases Nat.eq_zero_or_pos a with h | h
      · exact h
      · have : 1 * 2 ^ drop ≤ a * 2 ^ drop := Nat.mul_le_mul_right _ h
        omega
    have hq : n / 2 ^ (n.log2 + 2) = 0 := Nat.div_eq_of_lt (by omega)
    have hr : n % 2 ^ (n.log2 + 2) = n := Nat.mod_eq_of_lt (by omega)
    unfold Toward.cut
    rw [Nat.min_eq_right (by omega), Nat.one_shiftLeft]
    subst ha
    rcases hw with rfl | rfl
    · simp only
      rw [hq, hr]
      generalize 2 ^ (n.log2 + 2) = g at *
      have e : (decide (g < 2 * n) || (g == 2 * n && 0 % 2 == 1)) = false := by
        simp; omega
      rw [e]; simp
    · simp only
      rw [hq]; simp

theorem read_rung (q kept : Nat) (hq : q ≤ 149) (hk : kept ≤ 16777216) (h3 : q = 149 ∨ 8388608 ≤ kept) (h4 : 1 ≤ q ∨ kept < 16777216) :
    ∃ m d : Nat, single.read ((149 - q) * 8388608 + kept) = .number false m (-(d : Int)) ∧ d ≤ 149 ∧ ((m = kept ∧ d = q) ∨ (kept = 16777216 ∧ m = 8388608 ∧ d + 1 = q)) := by
  have w1 : single.signWeight = 2147483648 := by decide
  have w2 : single.binade = 8388608 := by decide
  have w3 : single.infRung = 2139095040 := by decide
  have w4 : single.leastPlace = -149 := by decide
  have e1 : ((149 - q) * 8388608 + kept) / 2147483648 = 0 := by omega
  have e2 : ((149 - q) * 8388608 + kept) % 2147483648 = (149 - q) * 8388608 + kept := by omega
  unfold Format.read
  rw [w1, w2, w3, w4, e1, e2]
  simp only
  by_cases c1 : (149 - q) * 8388608 + kept < 8388608
  · rw [if_pos c1]
    refine ⟨_, 149, rfl, by omega, .inl ⟨by omega, by omega⟩⟩
  · rw [if_neg c1, if_pos (by omega)]
    have num : ∀ (u v : Nat) (i j : Int), u = v → i = j → Datum.number (0 % 2 == 1) u i = Datum.number false v j := by rintro u v i j rfl rfl; rfl
    by_cases c2 : kept = 16777216
    · refine ⟨_, q - 1, num _ _ _ _ rfl ?_, by omega, .inr ⟨c2, ?_, by omega⟩⟩ <;> omega
    · by_cases c3 : kept < 8388608
      · exfalso; omega
      · refine ⟨_, q, num _ _ _ _ rfl ?_, by omega, .inl ⟨?_, rfl⟩⟩ <;> omega

theorem nearest_rng (t M n1 n2 : Nat) (h2 : n2 < 16777216) (a : n1 * 2 ^ M ≤ t) (b : t ≤ n2 * 2 ^ M) : Rng n1 n2 (single.nearest false t (-(M : Int))) := by
  by_cases ht : t = 0
  · subst ht
    refine ⟨0, 149, ?_, by omega, by omega, ?_, by simp⟩
    · have e : single.nearest false 0 (-(M : Int)) = 0 := by unfold Format.nearest; rw [if_pos rfl]; rfl
      rw [e]; decide
    · have hp : 0 < (2 : Nat) ^ M := Nat.two_pow_pos _
      have : n1 = 0 := by
        rcases Nat.eq_zero_or_pos n1 with h | h
        · exact h
        · have := Nat.mul_pos h hp; omega
      subst this; simp
  · have w4 : single.leastPlace = -149 := by decide
    have hlo : 2 ^ t.log2 ≤ t := Nat.log2_self_le ht
    have hhi : t < 2 ^ (t.log2 + 1) := Nat.lt_log2_self
    have hL : t.log2 ≤ 23 + M := by
      have : 2 ^ t.log2 < 2 ^ (24 + M) := by
        refine Nat.lt_of_le_of_lt (Nat.le_trans hlo b) ?_
        rw [Nat.pow_add]
        exact Nat.mul_lt_mul_of_pos_right (by omega) (Nat.two_pow_pos _)
      have := (Nat.pow_lt_pow_iff_right (by decide : 1 < 2)).1 this
      omega
    obtain ⟨q, hq, hq1, hq2, hq3⟩ : ∃ q : Nat, max (-(M : Int) + (t.log2 : Int) - (23 : Nat)) (-149) = -(q : Int) ∧ q ≤ 149 ∧ q ≤ M + 23 - t.log2 ∧ (q = 149 ∨ q = M + 23 - t.log2) := by
      refine ⟨(-(max (-(M : Int) + (t.log2 : Int) - (23 : Nat)) (-149))).toNat, ?_, ?_, ?_, ?_⟩ <;> omega
    have hf : single.fractionBits = 23 := rfl
    have d1 : (-(M : Int) - -(q : Int)).toNat = q - M := by omega
    have d2 : (-(q : Int) - -(M : Int)).toNat = M - q := by omega
    have d3 : (-(q : Int) - -149).toNat = 149 - q := by omega
    have w2 : single.binade = 8388608 := by decide
    have w3 : single.infRung = 2139095040 := by decide
    have hmm : q + (M - q) = M + (q - M) := by omega
    have up : ∀ n : Nat, n * 2 ^ M ≤ t → (n * 2 ^ q) * 2 ^ (M - q) ≤ t * 2 ^ (q - M) := fun n h => by
      rw [Nat.mul_assoc, ← Nat.pow_add, hmm, Nat.pow_add, ← Nat.mul_assoc]
      exact Nat.mul_le_mul_right _ h
    have dn : ∀ n : Nat, t ≤ n * 2 ^ M → t * 2 ^ (q - M) ≤ (n * 2 ^ q) * 2 ^ (M - q) := fun n h => by
      rw [Nat.mul_assoc, ← Nat.pow_add, hmm, Nat.pow_add, ← Nat.mul_assoc]
      exact Nat.mul_le_mul_right _ h
    have c1 := cut_between .even (.inl rfl) (t * 2 ^ (q - M)) (M - q) (n1 * 2 ^ q) (n2 * 2 ^ q) (up n1 a) (dn n2 b)
    have c2 : Toward.even.cut false (t * 2 ^ (q - M)) (M - q) ≤ 16777216 := by
      refine (cut_between .even (.inl rfl) (t * 2 ^ (q - M)) (M - q) 0 16777216 (by simp) ?_).2
      have e : (16777216 : Nat) * 2 ^ (M - q) = 2 ^ (24 + (M - q)) := by rw [Nat.pow_add]
      rw [e]
      refine Nat.le_trans (Nat.mul_le_mul_right _ (Nat.le_of_lt hhi)) ?_
      rw [← Nat.pow_add]
      exact Nat.pow_le_pow_right (by decide) (by omega)
    have c3 : q = 149 ∨ 8388608 ≤ Toward.even.cut false (t * 2 ^ (q - M)) (M - q) := by
      rcases hq3 with h | h
      · exact .inl h
      · right
        refine (cut_between .even (.inl rfl) (t * 2 ^ (q - M)) (M - q) 8388608 16777216 ?_ ?_).1
        · have e : (8388608 : Nat) * 2 ^ (M - q) = 2 ^ (23 + (M - q)) := by rw [Nat.pow_add]
          rw [e]
          refine Nat.le_trans ?_ (Nat.mul_le_mul_right _ hlo)
          rw [← Nat.pow_add]
          exact Nat.pow_le_pow_right (by decide) (by omega)
        · have e : (16777216 : Nat) * 2 ^ (M - q) = 2 ^ (24 + (M - q)) := by rw [Nat.pow_add]
          rw [e]
          refine Nat.le_trans (Nat.mul_le_mul_right _ (Nat.le_of_lt hhi)) ?_
          rw [← Nat.pow_add]
          exact Nat.pow_le_pow_right (by decide) (by omega)
    have c4 : 1 ≤ q ∨ Toward.even.cut false (t * 2 ^ (q - M)) (M - q) < 16777216 := by
      rcases Nat.eq_zero_or_pos q with h | h
      · right; subst h; have := c1.2; simp only [Nat.pow_zero, Nat.mul_one] at this ⊢; omega
      · exact .inl h
    obtain ⟨m, d, r1, r2, r3⟩ := read_rung q _ hq1 c2 c3 c4
    refine ⟨m, d, ?_, r2, ?_, ?_⟩
    · rw [← r1]
      unfold Format.nearest
      rw [if_neg ht, w4, hf, hq]
      simp only []
      rw [d1, d2, d3, w2, w3, Nat.shiftLeft_eq]
      simp only [Format.word, if_neg (show ¬ (false = true) by decide)]
      rw [Nat.min_eq_left (by omega)]
    · rcases r3 with ⟨rfl, rfl⟩ | ⟨e1, rfl, e3⟩ <;> omega
    · rcases r3 with ⟨rfl, rfl⟩ | ⟨e1, rfl, e3⟩
      · exact c1
      · rw [e1] at c1
        subst e3
        rw [Nat.pow_succ, ← Nat.mul_assoc, ← Nat.mul_assoc] at c1
        omega

theorem rng_int (n : Nat) (h : n < 16777216) : Rng n n (floatOfInt .f32 (n : Int)) := by
  have e : floatOfInt .f32 (n : Int) = single.nearest false n (-((0 : Nat) : Int)) := by
    unfold floatOfInt FloatKind.nearest FloatKind.encode FloatKind.format Format.write
    have e1 : decide ((n : Int) < 0) = false := decide_eq_false (by omega)
    simp only []
    rw [e1]
    simp
  rw [e]
  exact nearest_rng n 0 n n h (by simp) (by simp)
theorem Rng.mono {a b c d x : Nat} (h : Rng a b x) (h1 : c ≤ a) (h2 : b ≤ d) : Rng c d x := by
  obtain ⟨m, e, r, g, gg, p, q⟩ := h
  exact ⟨m, e, r, g, gg, Nat.le_trans (Nat.mul_le_mul_right _ h1) p, Nat.le_trans q (Nat.mul_le_mul_right _ h2)⟩

theorem rng_add {a b c d x y : Nat} (hx : Rng a b x) (hy : Rng c d y) (h : b + d < 16777216) : ∃ s, floatBits .add .f32 x y = some s ∧ Rng (a + c) (b + d) s := by
  obtain ⟨m, i, r, g, gg, p, q⟩ := hx
  obtain ⟨n, j, r', g', gg', p', q'⟩ := hy
  refine ⟨single.nearest false (m * 2 ^ (max i j - i) + n * 2 ^ (max i j - j)) (-((max i j : Nat) : Int)), ?_, ?_⟩
  · show single.add x y = _
    unfold Format.add
    rw [r, r']
    have e0 : min (-(i : Int)) (-(j : Int)) = -((max i j : Nat) : Int) := by omega
    have e1 : (-(i : Int) - -((max i j : Nat) : Int)).toNat = max i j - i := by omega
    have e2 : (-(j : Int) - -((max i j : Nat) : Int)).toNat = max i j - j := by omega
    simp only [Datum.sum, e0, e1, e2, signed, Nat.shiftLeft_eq, Option.map_some]
    generalize m * 2 ^ (max i j - i) = A
    generalize n * 2 ^ (max i j - j) = B
    show Option.some _ = _
    have ht : ((if false = true then (-((A : Nat) : Int)) else ((A : Nat) : Int)) + (if false = true then (-((B : Nat) : Int)) else ((B : Nat) : Int))) = ((A + B : Nat) : Int) := by simp
    rw [ht]
    have hneg : (if ((A + B : Nat) : Int) = 0 then (false && false) else decide (((A + B : Nat) : Int) < 0)) = false := by
      split
      · rfl
      · simp; omega
    rw [hneg]
    have ha : (((A + B : Nat) : Int)).natAbs = A + B := by omega
    rw [ha]; rfl
  · refine nearest_rng _ _ _ _ h ?_ ?_
    · have e1 : 2 ^ max i j = 2 ^ i * 2 ^ (max i j - i) := by rw [← Nat.pow_add]; congr 1; omega
      have e2 : 2 ^ max i j = 2 ^ j * 2 ^ (max i j - j) := by rw [← Nat.pow_add]; congr 1; omega
      rw [Nat.add_mul]
      refine Nat.add_le_add ?_ ?_
      · rw [e1, ← Nat.mul_assoc]; exact Nat.mul_le_mul_right _ p
      · rw [e2, ← Nat.mul_assoc]; exact Nat.mul_le_mul_right _ p'
    · have e1 : 2 ^ max i j = 2 ^ i * 2 ^ (max i j - i) := by rw [← Nat.pow_add]; congr 1; omega
      have e2 : 2 ^ max i j = 2 ^ j * 2 ^ (max i j - j) := by rw [← Nat.pow_add]; congr 1; omega
      rw [Nat.add_mul]
      refine Nat.add_le_add ?_ ?_
      · rw [e1, ← Nat.mul_assoc]; exact Nat.mul_le_mul_right _ q
      · rw [e2, ← Nat.mul_assoc]; exact Nat.mul_le_mul_right _ q'

theorem rng_half {a b x : Nat} (hx : Rng (2 * a) (2 * b) x) (h : b < 16777216) : ∃ s, floatBits .quo .f32 x 1073741824 = some s ∧ Rng a b s := by
  obtain ⟨m, i, r, g, gg, p, q⟩ := hx
  have hm : m.log2 ≤ 24 := by
    by_cases h0 : m = 0
    · subst h0; decide
    · have h1 : 2 ^ m.log2 ≤ m := Nat.log2_self_le h0
      have : 2 ^ m.log2 < 2 ^ 25 := by omega
      have := (Nat.pow_lt_pow_iff_right (by decide : 1 < 2)).1 this
      omega
  obtain ⟨u, hu⟩ : ∃ u, u = 26 - m.log2 := ⟨_, rfl⟩
  have hu2 : 2 ≤ u := by omega
  refine ⟨single.nearest false (m * 2 ^ u) (-((i + u + 1 : Nat) : Int)), ?_, ?_⟩
  · show single.div x 1073741824 = _
    have r' : single.read 1073741824 = .number false 8388608 (-22) := by decide
    have l : Nat.log2 8388608 = 23 := by decide
    have d : m * 2 ^ (u + 22) = (m * 2 ^ (u - 1)) * 8388608 := by
      rw [show u + 22 = (u - 1) + 23 by omega, Nat.pow_add, ← Nat.mul_assoc]
    have e1 : 25 + 23 - m.log2 = u + 22 := by omega
    have hf : single.fractionBits = 23 := rfl
    unfold Format.div
    rw [r, r', hf]
    simp only [Datum.quotient, l, Nat.shiftLeft_eq, e1]
    rw [if_neg (show ¬ (8388608 = 0) by decide), d, Nat.mul_div_cancel _ (by decide), Nat.mul_mod_left]
    have e2 : 2 * (m * 2 ^ (u - 1)) = m * 2 ^ u := by
      rw [← Nat.mul_assoc, Nat.mul_comm 2 m, Nat.mul_assoc, Nat.mul_comm 2, ← Nat.pow_succ, show (u - 1).succ = u by omega]
    have e3 : -(i : Int) - -22 - ((u + 22 : Nat) : Int) - 1 = -((i + u + 1 : Nat) : Int) := by omega
    rw [e2, e3]
    simp [Format.write]
  · refine nearest_rng _ _ _ _ h ?_ ?_
    · rw [show i + u + 1 = (i + 1) + u by omega, Nat.pow_add, ← Nat.mul_assoc]
      refine Nat.mul_le_mul_right _ (Nat.le_trans (Nat.le_of_eq ?_) p)
      rw [Nat.pow_succ, ← Nat.mul_assoc, Nat.mul_comm _ 2, Nat.mul_assoc]
    · rw [show i + u + 1 = (i + 1) + u by omega, Nat.pow_add, ← Nat.mul_assoc]
      refine Nat.mul_le_mul_right _ (Nat.le_trans q (Nat.le_of_eq ?_))
      rw [Nat.pow_succ, ← Nat.mul_assoc, Nat.mul_comm _ 2, Nat.mul_assoc]

theorem rng_toInt {a b x : Nat} (hx : Rng a b x) (h : b < 16777216) : ∃ n : Nat, floatToIntVal .f32 x .i64 = some (n : Int) ∧ a ≤ n ∧ n ≤ b := by
  obtain ⟨m, i, r, g, gg, p, q⟩ := hx
  have c := cut_between .zero (.inr rfl) m i a b p q
  refine ⟨Toward.zero.cut false m i, ?_, c⟩
  unfold floatToIntVal
  have e : (FloatKind.f32.decode x).toInt .zero = some ((Toward.zero.cut false m i : Nat) : Int) := by
    show (single.read x).toInt .zero = _
    rw [r]
    simp [Datum.toInt, Datum.integral, signed]
  rw [e]
  simp only []
  rw [if_pos]
  simp only [IntKind.min, IntKind.max]
  generalize Toward.zero.cut false m i = z at c
  simp [go_sem]
  omega

/-- Not below zero and no NaN; no NaN. -/
def NN (x : Nat) : Prop := (∃ m e, single.read x = .number false m e) ∨ single.read x = .infinity false
def SG (x : Nat) : Prop := ∃ s, (∃ m e, single.read x = .number s m e) ∨ single.read x = .infinity s
theorem read_word (s : Bool) (r : Nat) (h : r ≤ 2139095040) : (∃ m e, single.read (single.word s r) = .number s m e) ∨ single.read (single.word s r) = .infinity s := by
  have w1 : single.signWeight = 2147483648 := by decide
  have w2 : single.binade = 8388608 := by decide
  have w3 : single.infRung = 2139095040 := by decide
  unfold Format.read Format.word
  rw [w1, w2, w3]
  have e1 : (if s = true then 2147483648 + r else r) / 2147483648 % 2 = s.toNat := by cases s <;> simp <;> omega
  have e2 : (if s = true then 2147483648 + r else r) % 2147483648 = r := by cases s <;> simp <;> omega
  rw [e1, e2]
  have e3 : (s.toNat == 1) = s := by cases s <;> rfl
  rw [e3]
  simp only []
  by_cases h1 : r < 8388608
  · left; rw [if_pos h1]; exact ⟨_, _, rfl⟩
  · rw [if_neg h1]
    by_cases h2 : r < 2139095040
    · left; rw [if_pos h2]; exact ⟨_, _, rfl⟩
    · right; rw [if_neg h2, if_pos (by omega)]
theorem read_near (s : Bool) (m : Nat) (e : Int) : (∃ m' e', single.read (single.nearest s m e) = .number s m' e') ∨ single.read (single.nearest s m e) = .infinity s := by
  have w3 : single.infRung = 2139095040 := by decide
  unfold Format.nearest
  split
  · exact read_word s 0 (by decide)
  · simp only []
    exact read_word s _ (by rw [← w3]; exact Nat.min_le_right _ _)
theorem Rng.nn {a b x : Nat} (h : Rng a b x) : NN x := by
  obtain ⟨m, i, r, _⟩ := h
  exact .inl ⟨_, _, r⟩
theorem nn_zero : NN 0 := .inl ⟨0, -149, by decide⟩

theorem nn_add {x y : Nat} (hx : NN x) (hy : NN y) : ∃ r, floatBits .add .f32 x y = some r ∧ NN r := by
  have i0 : single.read (single.word false single.infRung) = .infinity false := by decide
  have go : ∀ d, (single.read x).sum (single.read y) = some d → ((∃ m e, d = .number false m e) ∨ d = .infinity false) → ∃ r, single.add x y = some r ∧ NN r := by
    intro d hd hk
    refine ⟨single.write d, by unfold Format.add; rw [hd]; rfl, ?_⟩
    rcases hk with ⟨m, e, rfl⟩ | rfl
    · exact read_near false m e
    · exact .inr i0
  show ∃ r, single.add x y = some r ∧ NN r
  rcases hx with ⟨m, e, hx⟩ | hx <;> rcases hy with ⟨n, f, hy⟩ | hy
  · rw [hx, hy] at go
    have num : ∀ (c : Bool) (u : Nat) (i : Int), c = false → ∃ m e, Datum.number c u i = .number false m e := by rintro c u i rfl; exact ⟨_, _, rfl⟩
    refine go _ rfl (.inl (num _ _ _ ?_))
    simp only [signed, if_neg (show ¬ (false = true) by decide)]
    rw [← Int.natCast_add]
    have hneg : ∀ z : Nat, (if ((z : Nat) : Int) = 0 then (false && false) else decide (((z : Nat) : Int) < 0)) = false := by
      intro z; split
      · rfl
      · exact decide_eq_false (by omega)
    exact hneg _
  · rw [hx, hy] at go; exact go _ rfl (.inr rfl)
  · rw [hx, hy] at go; exact go _ rfl (.inr rfl)
  · rw [hx, hy] at go; exact go _ rfl (.inr rfl)

theorem nn_mul {a b x y : Nat} (hx : Rng a b x) (ha : 1 ≤ a) (hy : NN y) : ∃ r, floatBits .mul .f32 x y = some r ∧ NN r := by
  have i0 : single.read (single.word false single.infRung) = .infinity false := by decide
  obtain ⟨m, i, r, g, gg, p, q⟩ := hx
  have hm : m ≠ 0 := by
    have := Nat.mul_pos ha (Nat.two_pow_pos i); omega
  show ∃ r, single.mul x y = some r ∧ NN r
  rcases hy with ⟨n, f, hy⟩ | hy
  · refine ⟨single.nearest false (m * n) (-(i : Int) + f), by unfold Format.mul; rw [r, hy]; rfl, read_near _ _ _⟩
  · refine ⟨_, by unfold Format.mul; rw [r, hy]; simp only [Datum.product, if_neg hm]; rfl, .inr i0⟩

theorem sg_sub {a b c d x y : Nat} (hx : Rng a b x) (hy : Rng c d y) : ∃ r, floatBits .sub .f32 x y = some r ∧ SG r := by
  obtain ⟨m, i, r, _⟩ := hx
  obtain ⟨n, j, r', _⟩ := hy
  show ∃ r, single.sub x y = some r ∧ SG r
  refine ⟨_, by unfold Format.sub; rw [r, r']; rfl, _, read_near _ _ _⟩

/-- 'max(0, x)'. -/
theorem nn_max {x : Nat} (h : SG x) : ∃ r, (∀ (P : Program) (w : World) (ts : Array TypeId) (t : TypeId), (Builtin.max_ ts t #[.float .f32 0, .float .f32 x]).run P w = .ok (.float .f32 r) w) ∧ NN r := by
  have z : single.read 0 = .number false 0 (-149) := by decide
  have hd : FloatKind.f32.decode 0 = .number false 0 (-149) := z
  have ho : FloatKind.f32.format.order 0 x = (single.read 0).order (single.read x) := rfl
  obtain ⟨s, h⟩ := h
  rcases h with ⟨m, e, h⟩ | h
  · cases s
    · by_cases hm : m = 0
      · refine ⟨0, fun P w ts t => ?_, nn_zero⟩
        subst hm
        have : FloatKind.f32.format.order 0 x = some .eq := by rw [ho, z, h]; simp [Datum.order, signed, compare, compareOfLessAndEq]
        simp [Builtin.max_, Builtin.max2, this, hd, Datum.neg]
      · refine ⟨x, fun P w ts t => ?_, .inl ⟨m, e, h⟩⟩
        have : FloatKind.f32.format.order 0 x = some .lt := by
          rw [ho, z, h]
          have hp : 0 < m <<< (e - min (-149) e).toNat := by rw [Nat.shiftLeft_eq]; exact Nat.mul_pos (by omega) (Nat.two_pow_pos _)
          simp only [Datum.order, signed]
          generalize m <<< (e - min (-149) e).toNat = z at hp
          simp [compare, compareOfLessAndEq]; omega
        simp [Builtin.max_, Builtin.max2, this]
    · refine ⟨0, fun P w ts t => ?_, nn_zero⟩
      have : FloatKind.f32.format.order 0 x = some .eq ∨ FloatKind.f32.format.order 0 x = some .gt := by
        rw [ho, z, h]
        simp only [Datum.order, signed]
        generalize m <<< (e - min (-149) e).toNat = z
        simp [compare, compareOfLessAndEq]
        by_cases hz : z = 0
        · left; subst hz; simp
        · right; rw [if_neg (by omega), if_neg (by omega)]
      rcases this with this | this <;> simp [Builtin.max_, Builtin.max2, this, hd, Datum.neg]
  · cases s
    · refine ⟨x, fun P w ts t => ?_, .inr h⟩
      have : FloatKind.f32.format.order 0 x = some .lt := by rw [ho, z, h]; rfl
      simp [Builtin.max_, Builtin.max2, this]
    · refine ⟨0, fun P w ts t => ?_, nn_zero⟩
      have : FloatKind.f32.format.order 0 x = some .gt := by rw [ho, z, h]; rfl
      simp [Builtin.max_, Builtin.max2, this]
end Go.Proofs.Ytlhpkpfnaepgbaa
