/- Ratios in lowest terms; tanks, what they hold up to a level, the common level. Nothing here speaks of the program. -/
import Derived.Test.YtefpnlimkelehaaBase
namespace Go.Proofs.Ytefpnlimkelehaa

/-- In lowest terms. -/
def red (n d : Int) : Int × Int := (n / (Int.gcd n d : Int), d / (Int.gcd n d : Int))
theorem gcd_pos {n d : Int} (hd : 0 < d) : 0 < (Int.gcd n d : Int) := by
  have : 0 < Int.gcd n d := Int.gcd_pos_of_ne_zero_right _ (by omega)
  omega
theorem red_mul (n d : Int) : (red n d).1 * (Int.gcd n d : Int) = n ∧ (red n d).2 * (Int.gcd n d : Int) = d :=
  ⟨Int.ediv_mul_cancel (Int.gcd_dvd_left ..), Int.ediv_mul_cancel (Int.gcd_dvd_right ..)⟩
theorem red_pos {n d : Int} (hd : 0 < d) : 0 < (red n d).2 := by
  have h1 := (red_mul n d).2
  have h2 := gcd_pos (n := n) hd
  rcases Int.lt_trichotomy (red n d).2 0 with h | h | h
  · have := Int.mul_neg_of_neg_of_pos h h2; omega
  · rw [h] at h1; omega
  · exact h
theorem red_cross (n d : Int) : (red n d).1 * d = n * (red n d).2 := by
  have ⟨h1, h2⟩ := red_mul n d
  generalize (red n d).1 = a at *
  generalize (red n d).2 = b at *
  generalize (Int.gcd n d : Int) = g at *
  subst h1 h2
  grind
theorem red_cop {n d : Int} (hd : 0 < d) : Int.gcd (red n d).1 (red n d).2 = 1 := by
  have h := Int.gcd_ediv_gcd_ediv_gcd (i := n) (j := d) (Int.gcd_pos_of_ne_zero_right _ (by omega))
  exact h
theorem dvd_cop {a b c : Int} (h : b ∣ a * c) (hc : Int.gcd a b = 1) : b ∣ c := by
  have h' := Int.natAbs_dvd_natAbs.2 h
  rw [Int.natAbs_mul] at h'
  have hc' : Nat.Coprime b.natAbs a.natAbs := by
    unfold Nat.Coprime
    rw [Nat.gcd_comm]; exact hc
  exact Int.natAbs_dvd_natAbs.1 (hc'.dvd_of_dvd_mul_left h')
theorem cross_eq {a b a' b' : Int} (hb : 0 < b) (hb' : 0 < b') (h1 : Int.gcd a b = 1) (h2 : Int.gcd a' b' = 1) (h : a * b' = a' * b) : a = a' ∧ b = b' := by
  have k1 : b ∣ b' := by
    have : b ∣ a * b' := ⟨a', by rw [h, Int.mul_comm]⟩
    exact dvd_cop this h1
  have k2 : b' ∣ b := by
    have : b' ∣ a' * b := ⟨a, by rw [← h, Int.mul_comm]⟩
    exact dvd_cop this h2
  have e : b = b' := Int.dvd_antisymm (by omega) (by omega) k1 k2
  subst e
  exact ⟨Int.eq_of_mul_eq_mul_right (by omega) h, rfl⟩
theorem red_of_cop {a b : Int} (h : Int.gcd a b = 1) : red a b = (a, b) := by
  unfold red; rw [h]; simp
theorem red_unique {n d a b : Int} (hd : 0 < d) (hb : 0 < b) (h1 : Int.gcd a b = 1) (h : a * d = n * b) : red n d = (a, b) := by
  have := cross_eq (red_pos hd) hb (red_cop (n := n) hd) h1 (a' := a) (by
    have c := red_cross n d
    have hp := hd
    refine Int.eq_of_mul_eq_mul_right (a := d) (by omega) ?_
    calc (red n d).1 * b * d = ((red n d).1 * d) * b := by grind
      _ = (n * (red n d).2) * b := by rw [c]
      _ = (n * b) * (red n d).2 := by grind
      _ = (a * d) * (red n d).2 := by rw [h]
      _ = a * (red n d).2 * d := by grind)
  exact Prod.ext this.1 this.2
theorem red_eq {n d n' d' : Int} (hd : 0 < d) (hd' : 0 < d') (h : n * d' = n' * d) : red n d = red n' d' := by
  have hc := red_cross n' d'
  have e := red_unique (n := n) (a := (red n' d').1) (b := (red n' d').2) hd (red_pos hd') (red_cop hd') (by
    refine Int.eq_of_mul_eq_mul_right (a := d') (by omega) ?_
    calc (red n' d').1 * d * d' = ((red n' d').1 * d') * d := by grind
      _ = (n' * (red n' d').2) * d := by rw [hc]
      _ = (n' * d) * (red n' d').2 := by grind
      _ = (n * d') * (red n' d').2 := by rw [h]
      _ = n * (red n' d').2 * d' := by grind)
  rw [e]
theorem red_le {n d : Int} (hd : 0 < d) : (red n d).2 ≤ d ∧ (0 ≤ n → 0 ≤ (red n d).1 ∧ (red n d).1 ≤ n) ∧ (n ≤ 0 → n ≤ (red n d).1 ∧ (red n d).1 ≤ 0) := by
  have ⟨h1, h2⟩ := red_mul n d
  have hg := gcd_pos (n := n) hd
  have hp := red_pos (n := n) hd
  generalize (red n d).1 = a at *
  generalize (red n d).2 = b at *
  generalize (Int.gcd n d : Int) = g at *
  refine ⟨?_, fun hn => ?_, fun hn => ?_⟩
  · have := Int.mul_le_mul_of_nonneg_left (show 1 ≤ g by omega) (show 0 ≤ b by omega); omega
  · have ha : 0 ≤ a := by
      rcases Int.lt_or_le a 0 with h | h
      · have := Int.mul_neg_of_neg_of_pos h hg; omega
      · exact h
    have := Int.mul_le_mul_of_nonneg_left (show 1 ≤ g by omega) ha; omega
  · have ha : a ≤ 0 := by
      rcases Int.lt_or_le 0 a with h | h
      · have := Int.mul_pos h hg; omega
      · exact h
    have := Int.mul_le_mul_of_nonneg_left (show 1 ≤ g by omega) (show 0 ≤ -a by omega)
    rw [Int.neg_mul, Int.neg_mul] at this; omega

abbrev Tk := Int × Int × Int
structure TkOk (t : Tk) : Prop where
  a1 : 1 ≤ t.1
  a2 : t.1 ≤ 50
  f1 : 0 ≤ t.2.1
  f2 : t.2.1 ≤ 100
  w1 : 0 ≤ t.2.2
  w2 : t.2.2 ≤ 10000

def sumL (g : Tk → Int) : List Tk → Int
  | [] => 0
  | t :: T => g t + sumL g T
theorem sumL_append (g : Tk → Int) (A B : List Tk) : sumL g (A ++ B) = sumL g A + sumL g B := by
  induction A with
  | nil => simp [sumL]
  | cons t A ih => simp only [List.cons_append, sumL, ih]; omega
theorem sumL_perm (g : Tk → Int) {A B : List Tk} (h : A.Perm B) : sumL g A = sumL g B := by
  induction h with
  | nil => rfl
  | cons t _ ih => simp only [sumL, ih]
  | swap s t l => simp only [sumL]; omega
  | trans _ _ h1 h2 => exact h1.trans h2
theorem sumL_mul (g : Tk → Int) (c : Int) (A : List Tk) : sumL (fun t => g t * c) A = sumL g A * c := by
  induction A with
  | nil => simp [sumL]
  | cons t A ih => simp only [sumL, ih, Int.add_mul]
theorem sumL_congr {g h : Tk → Int} {A : List Tk} (k : ∀ t ∈ A, g t = h t) : sumL g A = sumL h A := by
  induction A with
  | nil => rfl
  | cons t A ih => simp only [sumL]; rw [k t (by simp), ih (fun s hs => k s (by simp [hs]))]
theorem sumL_le {g h : Tk → Int} {A : List Tk} (k : ∀ t ∈ A, g t ≤ h t) : sumL g A ≤ sumL h A := by
  induction A with
  | nil => simp [sumL]
  | cons t A ih =>
    simp only [sumL]
    have := k t (by simp)
    have := ih (fun s hs => k s (by simp [hs]))
    omega
theorem sumL_lt {g h : Tk → Int} {A : List Tk} (k : ∀ t ∈ A, g t ≤ h t) {t : Tk} (ht : t ∈ A) (hlt : g t < h t) : sumL g A < sumL h A := by
  induction A with
  | nil => simp at ht
  | cons s A ih =>
    simp only [sumL]
    have h1 := k s (by simp)
    have h2 := sumL_le (fun s hs => k s (List.mem_cons_of_mem _ hs))
    rcases List.mem_cons.1 ht with rfl | ht
    · omega
    · have := ih (fun s hs => k s (List.mem_cons_of_mem _ hs)) ht; omega
theorem sumL_bd {g : Tk → Int} {A : List Tk} {lo hi : Int} (k : ∀ t ∈ A, lo ≤ g t ∧ g t ≤ hi) : lo * A.length ≤ sumL g A ∧ sumL g A ≤ hi * A.length := by
  induction A with
  | nil => simp [sumL]
  | cons t A ih =>
    have h1 := k t (by simp)
    have h2 := ih (fun s hs => k s (by simp [hs]))
    simp only [sumL, List.length_cons, Int.natCast_add, Int.mul_add]
    omega

/-- The water of tanks; what they hold up to the level n / d, in parts of which d make one. -/
def watL (T : List Tk) : Int := sumL (fun t => t.2.2) T
def upTo (n d : Int) (t : Tk) : Int := t.1 * max 0 (n - t.2.1 * d)
def belowL (n d : Int) (T : List Tk) : Int := sumL (upTo n d) T
/-- The tanks whose floors are not above top. -/
def cov (T : List Tk) (top : Int) : List Tk := T.filter fun t => decide (t.2.1 ≤ top)
def areaL (T : List Tk) : Int := sumL (fun t => t.1) T
def weiL (T : List Tk) : Int := sumL (fun t => t.1 * t.2.1) T
def overN (T : List Tk) (top : Int) : Int := weiL (cov T top) + watL T
def overD (T : List Tk) (top : Int) : Int := areaL (cov T top)
def overR (T : List Tk) (top : Int) : Int × Int := red (overN T top) (overD T top)
/-- p is the common level of tanks. -/
structure IsLvl (T : List Tk) (p : Int × Int) : Prop where
  pos : 0 < p.2
  cop : Int.gcd p.1 p.2 = 1
  eq : belowL p.1 p.2 T = watL T * p.2
  fl : ∃ t ∈ T, t.2.1 * p.2 ≤ p.1
/-- p is not below the common level. -/
structure IsUp (T : List Tk) (p : Int × Int) : Prop where
  pos : 0 < p.2
  cop : Int.gcd p.1 p.2 = 1
  ge : watL T * p.2 ≤ belowL p.1 p.2 T
  fl : ∃ t ∈ T, t.2.1 * p.2 ≤ p.1

theorem max_scale {x d : Int} (hd : 0 < d) : max 0 (x * d) = max 0 x * d := by
  rcases Int.le_total 0 x with h | h
  · rw [Int.max_eq_right h, Int.max_eq_right (Int.mul_nonneg h (by omega))]
  · rw [Int.max_eq_left h, Int.zero_mul, Int.max_eq_left]
    have := Int.mul_le_mul_of_nonneg_right h (show 0 ≤ d by omega); omega
theorem below_scale (T : List Tk) (n d e : Int) (he : 0 < e) : belowL (n * e) (d * e) T = belowL n d T * e := by
  unfold belowL
  rw [← sumL_mul]
  refine sumL_congr fun t _ => ?_
  unfold upTo
  rw [Int.mul_assoc, ← max_scale he]
  congr 2
  rw [Int.sub_mul, Int.mul_assoc]
/-- A greater level holds more, where it is above some floor. -/
theorem below_lt {T : List Tk} (hT : ∀ t ∈ T, TkOk t) {n n' d : Int} (h : n < n') {t : Tk} (ht : t ∈ T) (hf : t.2.1 * d < n') : belowL n d T < belowL n' d T := by
  have h0 : ∀ t ∈ T, upTo n d t ≤ upTo n' d t := fun t ht => by
    have := (hT t ht).a1
    exact Int.mul_le_mul_of_nonneg_left (by omega) (by omega)
  refine sumL_lt h0 ht ?_
  have := (hT t ht).a1
  exact Int.mul_lt_mul_of_pos_left (by omega) (by omega)
theorem below_le {T : List Tk} (hT : ∀ t ∈ T, TkOk t) {n n' d : Int} (h : n ≤ n') : belowL n d T ≤ belowL n' d T := by
  refine sumL_le fun t ht => ?_
  have := (hT t ht).a1
  exact Int.mul_le_mul_of_nonneg_left (by omega) (by omega)

theorem IsLvl.up {T : List Tk} {p : Int × Int} (h : IsLvl T p) : IsUp T p := ⟨h.pos, h.cop, by rw [h.eq]; exact Int.le_refl _, h.fl⟩
/-- The common level is not above what is not below it. -/
theorem IsLvl.le {T : List Tk} (hT : ∀ t ∈ T, TkOk t) {p : Int × Int} (h : IsLvl T p) {n d : Int} (hd : 0 < d) (hg : watL T * d ≤ belowL n d T) (hf : ∃ t ∈ T, t.2.1 * d ≤ n) : p.1 * d ≤ n * p.2 := by
  rcases Int.lt_or_le (n * p.2) (p.1 * d) with hlt | hle
  · exfalso
    obtain ⟨t, ht, hf⟩ := hf
    have e1 := below_scale T p.1 p.2 d hd
    have e2 := below_scale T n d p.2 h.pos
    rw [Int.mul_comm d p.2] at e2
    have := below_lt hT (d := p.2 * d) hlt ht (by
      have := Int.mul_le_mul_of_nonneg_right hf (show 0 ≤ p.2 by have := h.pos; omega)
      rw [Int.mul_assoc, Int.mul_comm d p.2] at this
      omega)
    rw [e1, e2, h.eq] at this
    have k := Int.mul_le_mul_of_nonneg_right hg (show 0 ≤ p.2 by have := h.pos; omega)
    have : watL T * d * p.2 = watL T * p.2 * d := by grind
    omega
  · exact hle
theorem IsLvl.unique {T : List Tk} (hT : ∀ t ∈ T, TkOk t) {p q : Int × Int} (h : IsLvl T p) (k : IsLvl T q) : p = q := by
  have h1 := h.le hT k.pos k.up.ge k.fl
  have h2 := k.le hT h.pos h.up.ge h.fl
  have := cross_eq h.pos k.pos h.cop k.cop (by omega)
  exact Prod.ext this.1 this.2

theorem mem_cov {T : List Tk} {top : Int} {t : Tk} : t ∈ cov T top ↔ t ∈ T ∧ t.2.1 ≤ top := by simp [cov]
theorem sumL_filter_le {g : Tk → Int} {p : Tk → Bool} {T : List Tk} (h : ∀ t ∈ T, 0 ≤ g t) : sumL g (T.filter p) ≤ sumL g T := by
  induction T with
  | nil => simp [sumL]
  | cons t T ih =>
    have h1 := h t (by simp)
    have h2 := ih (fun s hs => h s (by simp [hs]))
    rw [List.filter_cons]
    split
    · simp only [sumL]; omega
    · simp only [sumL]; omega
theorem sumL_filter_eq {g : Tk → Int} {p : Tk → Bool} {T : List Tk} (h : ∀ t ∈ T, p t = false → g t = 0) : sumL g (T.filter p) = sumL g T := by
  induction T with
  | nil => simp [sumL]
  | cons t T ih =>
    have h1 := h t (by simp)
    have h2 := ih (fun s hs => h s (by simp [hs]))
    rw [List.filter_cons]
    split
    · simp only [sumL]; omega
    · rename_i hp
      have := h1 (by simpa using hp)
      simp only [sumL]; omega
theorem cov_lin (A : List Tk) (n d : Int) : sumL (fun t => t.1 * (n - t.2.1 * d)) A = areaL A * n - weiL A * d := by
  induction A with
  | nil => simp [sumL, areaL, weiL]
  | cons t A ih =>
    unfold areaL weiL at *
    simp only [sumL, ih]
    grind
theorem below_nonneg {T : List Tk} (hT : ∀ t ∈ T, TkOk t) (n d : Int) : ∀ t ∈ T, 0 ≤ upTo n d t := fun t ht => by
  have := (hT t ht).a1
  exact Int.mul_nonneg (by omega) (by omega)
theorem overD_pos {T : List Tk} (hT : ∀ t ∈ T, TkOk t) {top : Int} (h : ∃ t ∈ T, t.2.1 ≤ top) : 0 < overD T top := by
  obtain ⟨t, ht, hf⟩ := h
  have hm : t ∈ cov T top := mem_cov.2 ⟨ht, hf⟩
  have hall : ∀ s ∈ cov T top, (fun _ => (0 : Int)) s < (fun t : Tk => t.1) s := fun s hs => by have := (hT s (mem_cov.1 hs).1).a1; simp only; omega
  have h0 : sumL (fun _ => (0 : Int)) (cov T top) = 0 := by
    have := sumL_mul (fun _ => (1 : Int)) 0 (cov T top); simpa using this
  have := sumL_lt (g := fun _ => (0 : Int)) (h := fun t : Tk => t.1) (A := cov T top) (fun s hs => Int.le_of_lt (hall s hs)) hm (hall t hm)
  unfold overD areaL
  omega
/-- The level over some floors is not below the common level. -/
theorem over_up {T : List Tk} (hT : ∀ t ∈ T, TkOk t) {top : Int} (h : ∃ t ∈ T, t.2.1 ≤ top) : IsUp T (overR T top) := by
  have hp := overD_pos hT h
  have rp := red_pos (n := overN T top) hp
  have rc := red_cross (overN T top) (overD T top)
  have key : watL T * overD T top ≤ belowL (overN T top) (overD T top) T := by
    have h1 : sumL (upTo (overN T top) (overD T top)) (cov T top) ≤ belowL (overN T top) (overD T top) T := sumL_filter_le (below_nonneg hT _ _)
    have h2 := cov_lin (cov T top) (overN T top) (overD T top)
    have h3 : sumL (fun t => t.1 * (overN T top - t.2.1 * overD T top)) (cov T top) ≤ sumL (upTo (overN T top) (overD T top)) (cov T top) := by
      refine sumL_le fun t ht => ?_
      have := (hT t (mem_cov.1 ht).1).a1
      exact Int.mul_le_mul_of_nonneg_left (by omega) (by omega)
    have h4 : areaL (cov T top) * overN T top - weiL (cov T top) * overD T top = watL T * overD T top := by
      unfold overN overD; grind
    omega
  have fl : ∃ t ∈ T, t.2.1 * overD T top ≤ overN T top := by
    -- the least floor among those covered
    have : ∃ t ∈ cov T top, ∀ s ∈ cov T top, t.2.1 ≤ s.2.1 := by
      have hne : ∃ t, t ∈ cov T top := by obtain ⟨t, ht, hf⟩ := h; exact ⟨t, mem_cov.2 ⟨ht, hf⟩⟩
      clear key rc rp hp
      generalize cov T top = A at hne
      induction A with
      | nil => obtain ⟨t, ht⟩ := hne; simp at ht
      | cons s A ih =>
        by_cases hA : ∃ t, t ∈ A
        · obtain ⟨t, ht, hm⟩ := ih hA
          by_cases hst : s.2.1 ≤ t.2.1
          · exact ⟨s, by simp, fun u hu => by rcases List.mem_cons.1 hu with rfl | hu; omega; have := hm u hu; omega⟩
          · exact ⟨t, by simp [ht], fun u hu => by rcases List.mem_cons.1 hu with rfl | hu; omega; exact hm u hu⟩
        · exact ⟨s, by simp, fun u hu => by rcases List.mem_cons.1 hu with rfl | hu; omega; exact absurd ⟨u, hu⟩ hA⟩
    obtain ⟨t, ht, hm⟩ := this
    refine ⟨t, (mem_cov.1 ht).1, ?_⟩
    have h1 : sumL (fun s => s.1 * t.2.1) (cov T top) ≤ weiL (cov T top) := sumL_le fun s hs => by
      have := (hT s (mem_cov.1 hs).1).a1
      exact Int.mul_le_mul_of_nonneg_left (hm s hs) (by omega)
    rw [sumL_mul (fun s => s.1)] at h1
    have h2 : 0 ≤ watL T := by
      have := (sumL_bd (g := fun t => t.2.2) (A := T) (lo := 0) (hi := 10000) (fun t ht => ⟨(hT t ht).w1, (hT t ht).w2⟩)).1
      unfold watL; omega
    unfold overN overD
    rw [Int.mul_comm]
    show areaL _ * _ ≤ _
    unfold areaL
    omega
  have hg := red_mul (overN T top) (overD T top)
  have hgp := gcd_pos (n := overN T top) hp
  refine ⟨rp, red_cop hp, ?_, ?_⟩
  · show watL T * (red (overN T top) (overD T top)).2 ≤ belowL (red (overN T top) (overD T top)).1 (red (overN T top) (overD T top)).2 T
    have e := below_scale T (red (overN T top) (overD T top)).1 (red (overN T top) (overD T top)).2 _ hgp
    rw [hg.1, hg.2] at e
    rw [e] at key
    refine Int.le_of_mul_le_mul_right (a := (Int.gcd (overN T top) (overD T top) : Int)) ?_ hgp
    rw [Int.mul_assoc, hg.2]; exact key
  · obtain ⟨t, ht, hf⟩ := fl
    refine ⟨t, ht, ?_⟩
    show t.2.1 * (red (overN T top) (overD T top)).2 ≤ (red (overN T top) (overD T top)).1
    refine Int.le_of_mul_le_mul_right (a := (Int.gcd (overN T top) (overD T top) : Int)) ?_ hgp
    rw [Int.mul_assoc, hg.1, hg.2]; exact hf

theorem IsUp.floor {T : List Tk} {p : Int × Int} (h : IsUp T p) : ∃ t ∈ T, t.2.1 ≤ p.1 / p.2 := by
  obtain ⟨t, ht, hf⟩ := h.fl
  exact ⟨t, ht, (Int.le_ediv_iff_mul_le h.pos).2 hf⟩
/-- One step: no higher; the same just at the common level. -/
theorem IsUp.step {T : List Tk} (hT : ∀ t ∈ T, TkOk t) {p : Int × Int} (h : IsUp T p) : (overR T (p.1 / p.2)).1 * p.2 ≤ p.1 * (overR T (p.1 / p.2)).2 ∧ ((overR T (p.1 / p.2)).1 * p.2 = p.1 * (overR T (p.1 / p.2)).2 → IsLvl T p) := by
  have hp := overD_pos hT h.floor
  have rp := red_pos (n := overN T (p.1 / p.2)) hp
  have rc := red_cross (overN T (p.1 / p.2)) (overD T (p.1 / p.2))
  have pp := h.pos
  have key : belowL p.1 p.2 T = overD T (p.1 / p.2) * p.1 - (overN T (p.1 / p.2) - watL T) * p.2 := by
    have h1 : sumL (upTo p.1 p.2) (cov T (p.1 / p.2)) = belowL p.1 p.2 T := by
      refine sumL_filter_eq fun t ht hb => ?_
      have hb' : ¬ t.2.1 ≤ p.1 / p.2 := by simpa using hb
      rw [Int.le_ediv_iff_mul_le pp] at hb'
      unfold upTo
      rw [Int.max_eq_left (by omega), Int.mul_zero]
    have h2 := cov_lin (cov T (p.1 / p.2)) p.1 p.2
    have h3 : sumL (fun t => t.1 * (p.1 - t.2.1 * p.2)) (cov T (p.1 / p.2)) = sumL (upTo p.1 p.2) (cov T (p.1 / p.2)) := by
      refine sumL_congr fun t ht => ?_
      have := (mem_cov.1 ht).2
      rw [Int.le_ediv_iff_mul_le pp] at this
      unfold upTo
      rw [Int.max_eq_right (by omega)]
    unfold overN overD
    rw [← h1, ← h3, h2]
    grind
  have hg := h.ge
  have hle : overN T (p.1 / p.2) * p.2 ≤ overD T (p.1 / p.2) * p.1 := by
    have : (overN T (p.1 / p.2) - watL T) * p.2 = overN T (p.1 / p.2) * p.2 - watL T * p.2 := Int.sub_mul ..
    omega
  show (red (overN T (p.1 / p.2)) (overD T (p.1 / p.2))).1 * p.2 ≤ p.1 * (red (overN T (p.1 / p.2)) (overD T (p.1 / p.2))).2 ∧ ((red (overN T (p.1 / p.2)) (overD T (p.1 / p.2))).1 * p.2 = p.1 * (red (overN T (p.1 / p.2)) (overD T (p.1 / p.2))).2 → IsLvl T p)
  generalize hN : overN T (p.1 / p.2) = N at *
  generalize hD : overD T (p.1 / p.2) = D at *
  generalize (red N D).1 = a at *
  generalize (red N D).2 = b at *
  constructor
  · refine Int.le_of_mul_le_mul_right (a := D) ?_ hp
    have e1 : a * p.2 * D = (N * p.2) * b := by rw [Int.mul_right_comm, rc]; grind
    have e2 : p.1 * b * D = (D * p.1) * b := by grind
    rw [e1, e2]
    exact Int.mul_le_mul_of_nonneg_right hle (by omega)
  · intro he
    refine ⟨pp, h.cop, ?_, h.fl⟩
    have e1 : (N * p.2) * b = (D * p.1) * b := by
      have e1 : a * p.2 * D = (N * p.2) * b := by rw [Int.mul_right_comm, rc]; grind
      have e2 : p.1 * b * D = (D * p.1) * b := by grind
      rw [← e1, ← e2, he]
    have e2 := Int.eq_of_mul_eq_mul_right (by omega) e1
    rw [key, ← e2, Int.sub_mul]; omega
/-- What falls from round to round. -/
noncomputable def lvMu (T : List Tk) (p : Int × Int) : Nat := open Classical in 2 * (p.1 / p.2).toNat + (if overR T (p.1 / p.2) = p then 0 else 1)
theorem IsUp.falls {T : List Tk} (hT : ∀ t ∈ T, TkOk t) {p : Int × Int} (h : IsUp T p) (hne : overR T (p.1 / p.2) ≠ p) : lvMu T (overR T (p.1 / p.2)) < lvMu T p := by
  have hs := h.step hT
  have hu := over_up hT h.floor
  have pp := h.pos
  have up := hu.pos
  unfold lvMu
  generalize hq : overR T (p.1 / p.2) = q at *
  rw [if_neg hne]
  have hfl : q.1 / q.2 ≤ p.1 / p.2 := by
    rw [Int.le_ediv_iff_mul_le pp]
    refine Int.le_of_mul_le_mul_right (a := q.2) ?_ up
    have h1 : q.1 / q.2 * q.2 ≤ q.1 := Int.ediv_mul_le _ (by omega)
    have h2 := Int.mul_le_mul_of_nonneg_right h1 (show 0 ≤ p.2 by omega)
    have h3 : q.1 / q.2 * p.2 * q.2 = q.1 / q.2 * q.2 * p.2 := by grind
    omega
  by_cases he : q.1 / q.2 = p.1 / p.2
  · rw [he, hq, if_pos rfl]; omega
  · have hq0 : 0 ≤ q.1 / q.2 := by
      obtain ⟨t, ht, hf⟩ := hu.floor
      have := (hT t ht).f1
      omega
    split <;> omega
end Go.Proofs.Ytefpnlimkelehaa
