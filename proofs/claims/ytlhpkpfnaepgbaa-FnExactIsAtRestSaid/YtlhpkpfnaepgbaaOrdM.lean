/- Tanks in the order of their floors, and the common level found by going through them. -/
import Derived.Test.YtlhpkpfnaepgbaaTkB
import Derived.Test.YtlhpkpfnaepgbaaCom
namespace Go.Proofs.Ytlhpkpfnaepgbaa
open Go.RowKit

def posO (f : Nat → Int) (O : List Nat) (i : Nat) : Nat := (O.takeWhile fun j => decide (f j ≤ f i)).length
theorem pos_le (f : Nat → Int) (O : List Nat) (i : Nat) : posO f O i ≤ O.length := (List.takeWhile_sublist _).length_le
theorem pos_lt {f : Nat → Int} {O : List Nat} {i k : Nat} (h : k < posO f O i) : f (O[k]?.getD 0) ≤ f i := by
  unfold posO at h
  induction O generalizing k with
  | nil => simp at h
  | cons a O ih =>
    rw [List.takeWhile_cons] at h
    by_cases hc : f a ≤ f i
    · simp only [hc, decide_true, if_true, List.length_cons] at h
      cases k with
      | zero => simpa using hc
      | succ k => simpa using ih (by omega)
    · simp [hc] at h
theorem pos_end {f : Nat → Int} {O : List Nat} {i : Nat} (h : posO f O i < O.length) : f i < f (O[posO f O i]?.getD 0) := by
  unfold posO at *
  induction O with
  | nil => simp at h
  | cons a O ih =>
    rw [List.takeWhile_cons] at h ⊢
    by_cases hc : f a ≤ f i
    · simp only [hc, decide_true, if_true, List.length_cons] at h ⊢
      simpa using ih (by omega)
    · simp only [hc, decide_false] at h ⊢
      simp; omega
def insO (f : Nat → Int) (O : List Nat) (i : Nat) : List Nat := O.take (posO f O i) ++ i :: O.drop (posO f O i)
theorem insO_perm (f : Nat → Int) (O : List Nat) (i : Nat) : (insO f O i).Perm (i :: O) := by
  unfold insO
  refine List.perm_middle.trans (List.Perm.cons _ ?_)
  rw [List.take_append_drop]
def ordK (f : Nat → Int) : Nat → List Nat
  | 0 => []
  | k + 1 => insO f (ordK f k) k
theorem ordK_perm (f : Nat → Int) (k : Nat) : (ordK f k).Perm (List.range k) := by
  induction k with
  | zero => exact List.Perm.refl _
  | succ k ih =>
    rw [List.range_succ]
    refine (insO_perm f _ k).trans ?_
    refine (List.Perm.cons k ih).trans ?_
    exact (List.perm_append_singleton k (List.range k)).symm
theorem ordK_length (f : Nat → Int) (k : Nat) : (ordK f k).length = k := by rw [(ordK_perm f k).length_eq, List.length_range]
theorem ordK_lt {f : Nat → Int} {k j : Nat} (h : j < k) : (ordK f k)[j]?.getD 0 < k := by
  have hj : j < (ordK f k).length := by rw [ordK_length]; exact h
  rw [List.getElem?_eq_getElem hj]
  have := (ordK_perm f k).mem_iff.1 (List.getElem_mem hj)
  simpa using this
theorem ordK_sorted (f : Nat → Int) (k : Nat) : (ordK f k).Pairwise fun a b => f a ≤ f b := by
  induction k with
  | zero => exact List.Pairwise.nil
  | succ k ih =>
    show (insO f (ordK f k) k).Pairwise _
    generalize ordK f k = O at ih
    unfold insO
    have h1 : ∀ a ∈ O.take (posO f O k), f a ≤ f k := by
      intro a ha
      obtain ⟨j, hj, rfl⟩ := List.getElem_of_mem ha
      have hj' : j < posO f O k := by rw [List.length_take] at hj; omega
      have hl : j < O.length := by have := pos_le f O k; omega
      have := pos_lt hj'
      rw [List.getElem?_eq_getElem hl] at this
      simpa using this
    have h2 : ∀ b ∈ O.drop (posO f O k), f k ≤ f b := by
      intro b hb
      obtain ⟨j, hj, rfl⟩ := List.getElem_of_mem hb
      rw [List.length_drop] at hj
      have he := pos_end (f := f) (O := O) (i := k) (by omega)
      have hp : posO f O k < O.length := by omega
      rw [List.getElem?_eq_getElem hp] at he
      simp only [Option.getD_some] at he
      rw [List.getElem_drop]
      by_cases e : j = 0
      · subst e; exact Int.le_of_lt he
      · have := List.pairwise_iff_getElem.1 ih (posO f O k) (posO f O k + j) hp (by omega) (by omega)
        omega
    rw [List.pairwise_append]
    refine ⟨ih.take, ?_, ?_⟩
    · rw [List.pairwise_cons]
      exact ⟨h2, ih.drop⟩
    · intro a ha b hb
      rcases List.mem_cons.1 hb with rfl | hb
      · exact h1 a ha
      · have e := List.take_append_drop (posO f O k) O
        have := ih
        rw [← e, List.pairwise_append] at this
        exact this.2.2 a ha b hb

def flT (T : List Tk) (j : Nat) : Int := (T[j]?.getD (0, 0, 0)).2.1
def ordN (T : List Tk) : List Nat := ordK (flT T) T.length
def ordL (T : List Tk) : List Int := (ordN T).map fun (j : Nat) => (j : Int)
theorem ordL_length (T : List Tk) : (ordL T).length = T.length := by unfold ordL ordN; rw [List.length_map, ordK_length]
theorem map_get (O : List Nat) (j : Nat) : (O.map fun (i : Nat) => (i : Int))[j]?.getD 0 = ((O[j]?.getD 0 : Nat) : Int) := by
  rw [List.getElem?_map]
  cases O[j]? <;> rfl
/-- The tanks in order. -/
def srt (T : List Tk) : List Tk := (ordN T).map fun j => T[j]?.getD (0, 0, 0)
theorem srt_length (T : List Tk) : (srt T).length = T.length := by unfold srt ordN; rw [List.length_map, ordK_length]
theorem srt_perm (T : List Tk) : (srt T).Perm T := by
  have h := (ordK_perm (flT T) T.length).map fun j => T[j]?.getD (0, 0, 0)
  refine h.trans (List.Perm.of_eq ?_)
  refine List.ext_getElem (by simp) fun i h1 h2 => ?_
  simp [List.getElem?_eq_getElem h2]
theorem srt_get {T : List Tk} {j : Nat} (h : j < T.length) : (srt T)[j]?.getD (0, 0, 0) = T[(ordN T)[j]?.getD 0]?.getD (0, 0, 0) := by
  unfold srt
  have hj : j < (ordN T).length := by unfold ordN; rw [ordK_length]; exact h
  rw [List.getElem?_map, List.getElem?_eq_getElem hj]
  rfl
theorem srt_sorted (T : List Tk) : (srt T).Pairwise fun a b => a.2.1 ≤ b.2.1 := by
  unfold srt
  rw [List.pairwise_map]
  exact ordK_sorted (flT T) T.length
theorem srt_le {T : List Tk} {i j : Nat} (hij : i ≤ j) (hj : j < T.length) : ((srt T)[i]?.getD (0, 0, 0)).2.1 ≤ ((srt T)[j]?.getD (0, 0, 0)).2.1 := by
  have hi : i < (srt T).length := by rw [srt_length]; omega
  have hj' : j < (srt T).length := by rw [srt_length]; omega
  rw [List.getElem?_eq_getElem hi, List.getElem?_eq_getElem hj']
  rcases Nat.lt_or_ge i j with h | h
  · exact List.pairwise_iff_getElem.1 (srt_sorted T) i j hi hj' h
  · obtain rfl : i = j := by omega
    exact Int.le_refl _

theorem lvl_of {T : List Tk} {n d : Int} (hd : 0 < d) (he : belowL n d T = watL T * d) (hf : ∃ t ∈ T, t.2.1 * d ≤ n) : IsLvl T (red n d) := by
  have hg := red_mul n d
  have hgp := gcd_pos (n := n) hd
  refine ⟨red_pos hd, red_cop hd, ?_, ?_⟩
  · have e := below_scale T (red n d).1 (red n d).2 _ hgp
    rw [hg.1, hg.2, he] at e
    refine Int.eq_of_mul_eq_mul_right (a := (Int.gcd n d : Int)) (by omega) ?_
    rw [← e, Int.mul_assoc, hg.2]
  · obtain ⟨t, ht, hf⟩ := hf
    refine ⟨t, ht, ?_⟩
    refine Int.le_of_mul_le_mul_right (a := (Int.gcd n d : Int)) ?_ hgp
    rw [Int.mul_assoc, hg.1, hg.2]; exact hf

def arK (T : List Tk) (k : Nat) : Int := areaL ((srt T).take k)
def weK (T : List Tk) (k : Nat) : Int := weiL ((srt T).take k)
theorem arK_succ {T : List Tk} {k : Nat} (h : k < T.length) : arK T (k + 1) = arK T k + ((srt T)[k]?.getD (0, 0, 0)).1 := sumL_take _ _ _ (by rw [srt_length]; exact h)
theorem weK_succ {T : List Tk} {k : Nat} (h : k < T.length) : weK T (k + 1) = weK T k + ((srt T)[k]?.getD (0, 0, 0)).1 * ((srt T)[k]?.getD (0, 0, 0)).2.1 := sumL_take _ _ _ (by rw [srt_length]; exact h)
theorem srt_ok {T : List Tk} (h : TksOk T) : TksOk (srt T) := ⟨by rw [srt_length]; exact h.l1, by rw [srt_length]; exact h.l6, fun t ht => h.all t ((srt_perm T).mem_iff.1 ht)⟩
theorem arwe_bd {T : List Tk} (h : TksOk T) (k : Nat) : 0 ≤ arK T k ∧ arK T k ≤ 300 ∧ 0 ≤ weK T k ∧ weK T k ≤ 30000 := by
  have hs := srt_ok h
  have h1 := sumL_take_bd (g := fun t => t.1) (T := srt T) (lo := 0) (hi := 50) (fun t ht => ⟨by have := (hs.all t ht).a1; omega, (hs.all t ht).a2⟩) hs.l6 (by omega) (by omega) k
  have h2 := sumL_take_bd (g := fun t => t.1 * t.2.1) (T := srt T) (lo := 0) (hi := 5000) (fun t ht => mul_bd (by have := (hs.all t ht).a1; omega) (hs.all t ht).a2 (hs.all t ht).f1 (hs.all t ht).f2) hs.l6 (by omega) (by omega) k
  unfold arK weK areaL weiL
  omega
/-- Where the model ends: the common level. -/
theorem com_at {T : List Tk} (h : TksOk T) {k : Nat} (hk : k < T.length)
    (h1 : k = 0 ∨ arK T k * ((srt T)[k]?.getD (0, 0, 0)).2.1 < watL T + weK T k)
    (h2 : k + 1 = T.length ∨ watL T + weK T (k + 1) ≤ arK T (k + 1) * ((srt T)[k + 1]?.getD (0, 0, 0)).2.1) :
    0 < arK T (k + 1) ∧ comR T = red (watL T + weK T (k + 1)) (arK T (k + 1)) := by
  have hs := srt_ok h
  have hm : (srt T)[k]?.getD (0, 0, 0) ∈ srt T := mem_get (by rw [srt_length]; exact hk)
  have ht := hs.all _ hm
  have b := arwe_bd h k
  have bw := watL_bd h
  have ea := arK_succ hk
  have ew := weK_succ hk
  generalize hX : (srt T)[k]?.getD (0, 0, 0) = X at *
  obtain ⟨N, hN⟩ : ∃ N, N = watL T + weK T (k + 1) := ⟨_, rfl⟩
  obtain ⟨D, hD⟩ : ∃ D, D = arK T (k + 1) := ⟨_, rfl⟩
  have dp : 0 < D := by have := ht.a1; omega
  have hf : X.2.1 * D ≤ N := by
    rw [hD, ea, Int.mul_add, hN, ew]
    rcases h1 with h0 | h0
    · subst h0
      have z1 : arK T 0 = 0 := rfl
      have z2 : weK T 0 = 0 := rfl
      rw [z1, z2, Int.mul_zero, Int.mul_comm X.2.1]; omega
    · rw [Int.mul_comm X.2.1, Int.mul_comm X.2.1]; omega
  refine ⟨by omega, ?_⟩
  rw [← hN, ← hD]
  refine com_eq h (lvl_of dp ?_ ⟨X, (srt_perm T).mem_iff.1 hm, hf⟩)
  have e1 : belowL N D T = belowL N D (srt T) := (sumL_perm _ (srt_perm T)).symm
  have e2 : belowL N D (srt T) = sumL (upTo N D) ((srt T).take (k + 1)) + sumL (upTo N D) ((srt T).drop (k + 1)) := by
    unfold belowL
    rw [← sumL_append, List.take_append_drop]
  have e3 : sumL (upTo N D) ((srt T).take (k + 1)) = areaL ((srt T).take (k + 1)) * N - weiL ((srt T).take (k + 1)) * D := by
    rw [← cov_lin]
    refine sumL_congr fun t ht' => ?_
    obtain ⟨j, hj, rfl⟩ := List.getElem_of_mem ht'
    rw [List.length_take, srt_length] at hj
    have hl := srt_le (T := T) (i := j) (j := k) (by omega) hk
    have hj' : j < (srt T).length := by rw [srt_length]; omega
    rw [List.getElem?_eq_getElem hj', hX] at hl
    simp only [Option.getD_some] at hl
    rw [List.getElem_take]
    unfold upTo
    rw [Int.max_eq_right]
    have := Int.mul_le_mul_of_nonneg_right hl (show 0 ≤ D by omega)
    omega
  have e4 : sumL (upTo N D) ((srt T).drop (k + 1)) = 0 := by
    have : sumL (upTo N D) ((srt T).drop (k + 1)) = sumL (fun _ => (1 : Int) * 0) ((srt T).drop (k + 1)) := by
      refine sumL_congr fun t ht' => ?_
      obtain ⟨j, hj, rfl⟩ := List.getElem_of_mem ht'
      rw [List.length_drop, srt_length] at hj
      have hl := srt_le (T := T) (i := k + 1) (j := k + 1 + j) (by omega) (by omega)
      have hj' : k + 1 + j < (srt T).length := by rw [srt_length]; omega
      rw [List.getElem?_eq_getElem hj'] at hl
      simp only [Option.getD_some] at hl
      rw [List.getElem_drop]
      unfold upTo
      rw [Int.max_eq_left, Int.mul_zero, Int.mul_zero]
      have h2' := h2.resolve_left (by omega)
      have := Int.mul_le_mul_of_nonneg_right hl (show 0 ≤ D by omega)
      rw [← hN, ← hD, Int.mul_comm] at h2'
      omega
    rw [this, sumL_mul (fun _ => 1), Int.mul_zero]
  rw [e1, e2, e3, e4]
  show areaL _ * N - weK T (k + 1) * D + 0 = _
  have : areaL ((srt T).take (k + 1)) = D := hD.symm
  rw [this, hN]
  grind
end Go.Proofs.Ytlhpkpfnaepgbaa
