/- Rows keep water: what the law says of the numbers. -/
import Derived.Test.YtchnnbkaiagpgaaTot
import Derived.Test.YtchnnbkaiagpgaaRr
import Derived.Test.YtchnnbkaiagpgaaRa
import Derived.Test.YtchnnbkaiagpgaaHa
import Derived.Test.YtchnnbkaiagpgaaHb
import Derived.Test.YtchnnbkaiagpgaaFs
import Derived.Test.YtchnnbkaiagpgaaSp5
import Derived.Test.YtchnnbkaiagpgaaTr
import Derived.Test.YtchnnbkaiagpgaaHir
import Derived.Test.YtchnnbkaiagpgaaJn
namespace Go.Proofs.Ytchnnbkaiagpgaa
open Go.RowKit

theorem totK_succ (xs : List Int) (k : Nat) : totK xs (k + 1) = totK xs k + xs[k]?.getD 0 := rfl
theorem in_keep (l : List (Int × Int × Int)) (x : Int) (k : Nat) (hk : k ≤ l.length) : heldK (tickL l x) k + inK l x k = heldK l k + x := by
  induction k with
  | zero => simp [heldK, inK]
  | succ k ih =>
    have q := ih (by omega)
    have e : ((tickL l x)[k]?.getD (0, 0, 0)).2.2 = leB (l[k]?.getD (0, 0, 0)) (inK l x k) := by rw [tickL_get _ _ _ (by omega)]; rfl
    show heldK (tickL l x) k + ((tickL l x)[k]?.getD (0, 0, 0)).2.2 + ouB (l[k]?.getD (0, 0, 0)) (inK l x k) = heldK l k + (l[k]?.getD (0, 0, 0)).2.2 + x
    rw [e]
    unfold leB ouB
    omega
theorem tick_keep (l : List (Int × Int × Int)) (x : Int) : heldS (tickL l x) + giveL l x = heldS l + x := by
  unfold heldS giveL
  rw [tickL_length]
  exact in_keep l x _ (Nat.le_refl _)
/-- What has come is given or held. -/
theorem row_keep (l : List (Int × Int × Int)) (xs : List Int) (n k : Nat) (hk : k ≤ n) : heldS (rowK l xs k) + totK (givesTo l xs n) k = heldS l + totK xs k := by
  induction k with
  | zero => rfl
  | succ k ih =>
    have q := ih (by omega)
    have t := tick_keep (rowK l xs k) (xs[k]?.getD 0)
    rw [totK_succ, totK_succ, givesTo_get _ _ _ _ (by omega)]
    show heldS (tickL (rowK l xs k) (xs[k]?.getD 0)) + (totK (givesTo l xs n) k + giveL (rowK l xs k) (xs[k]?.getD 0)) = _
    omega
theorem left_held (l : List (Int × Int × Int)) (xs : List Int) (k : Nat) : leftK l xs k = heldS (rowK l xs k) := by
  induction k with
  | zero => rfl
  | succ k ih =>
    have t := tick_keep (rowK l xs k) (xs[k]?.getD 0)
    show leftK l xs k + (xs[k]?.getD 0 - giveL (rowK l xs k) (xs[k]?.getD 0)) = heldS (tickL (rowK l xs k) (xs[k]?.getD 0))
    omega
theorem back_true {l : List (Int × Int × Int)} {xs : List Int} (h : askB l xs = true) : backB l xs = true := by
  obtain ⟨hl, hx⟩ := askB_iff.1 h
  refine backB_iff.2 fun k hk => ?_
  rw [left_held]
  exact (heldK_bd (rowK_ok hl hx (k + 1) (by omega)) _ (Nat.le_refl _)).1

/-! ### the first that spills -/
theorem least_of {P : Nat → Prop} {n : Nat} (h : P n) : ∃ m, P m ∧ ∀ j, j < m → ¬ P j := by
  classical
  induction n using Nat.strongRecOn with
  | ind n ih =>
    by_cases e : ∃ j, j < n ∧ P j
    · obtain ⟨j, hj, hp⟩ := e
      exact ih j hj hp
    · exact ⟨n, h, fun j hj hp => e ⟨j, hj, hp⟩⟩
theorem totK_pos {L : List Int} {n : Nat} (h : ∀ j, j < n → 0 ≤ L[j]?.getD 0) : 0 ≤ totK L n ∧ (0 < totK L n ↔ ∃ j, j < n ∧ 0 < L[j]?.getD 0) := by
  induction n with
  | zero => exact ⟨Int.le_refl _, ⟨fun q => absurd q (by simp [totK]), fun ⟨j, hj, _⟩ => absurd hj (by omega)⟩⟩
  | succ n ih =>
    obtain ⟨i1, i2⟩ := ih (fun j hj => h j (by omega))
    have q := h n (by omega)
    rw [totK_succ]
    refine ⟨by omega, ⟨fun hp => ?_, ?_⟩⟩
    · by_cases e : 0 < totK L n
      · obtain ⟨j, hj, hp⟩ := i2.1 e
        exact ⟨j, by omega, hp⟩
      · exact ⟨n, by omega, by omega⟩
    · rintro ⟨j, hj, hp⟩
      by_cases e : j = n
      · subst e; omega
      · have := i2.2 ⟨j, by omega, hp⟩
        omega
theorem soK_pos {l : List (Int × Int × Int)} {xs : List Int} (hl : RowOk l) (hx : FlowOk xs) (k i : Nat) (hk : k ≤ xs.length) (hi : i < l.length) : 0 < soK l xs k i ↔ ∃ t, t < k ∧ 0 < spAt l xs t i := by
  induction k with
  | zero => exact ⟨fun q => absurd q (by simp [soK]), fun ⟨j, hj, _⟩ => absurd hj (by omega)⟩
  | succ k ih =>
    have i2 := ih (by omega)
    have q := spAt_bd hl hx k i (by omega) hi
    have q0 := soK_bd hl hx k i (by omega) hi
    show 0 < soK l xs k i + spAt l xs k i ↔ _
    refine ⟨fun hp => ?_, ?_⟩
    · by_cases e : 0 < soK l xs k i
      · obtain ⟨j, hj, hp⟩ := i2.1 e
        exact ⟨j, by omega, hp⟩
      · exact ⟨k, by omega, by omega⟩
    · rintro ⟨j, hj, hp⟩
      by_cases e : j = k
      · subst e; omega
      · have := i2.2 ⟨j, by omega, hp⟩
        omega
theorem soM_get {l : List (Int × Int × Int)} {xs : List Int} (h : askB l xs = true) {i : Nat} (hi : i < l.length) : (soM l xs)[i]?.getD 0 = soK l xs xs.length i := by
  unfold soM
  rw [if_pos h]
  simp [hi]
theorem soM_length {l : List (Int × Int × Int)} {xs : List Int} (h : askB l xs = true) : (soM l xs).length = l.length := by
  unfold soM
  rw [if_pos h]
  simp
theorem first_iff {l : List (Int × Int × Int)} {xs : List Int} (h : askB l xs = true) : (fsM l xs).2.2 = decide (0 < totK (soM l xs) l.length) := by
  obtain ⟨hl, hx⟩ := askB_iff.1 h
  have tp := totK_pos (L := soM l xs) (n := l.length) (fun j hj => by rw [soM_get h hj]; exact (soK_bd hl hx _ j (Nat.le_refl _) hj).1)
  by_cases e : ∃ t, t < xs.length ∧ ∃ i, i < l.length ∧ 0 < spAt l xs t i
  · obtain ⟨t0, ht0⟩ := e
    obtain ⟨t, ⟨ht, i0, hi0⟩, hmin⟩ := least_of (P := fun t => t < xs.length ∧ ∃ i, i < l.length ∧ 0 < spAt l xs t i) ht0
    obtain ⟨i, ⟨hi, hp⟩, imin⟩ := least_of (P := fun i => i < l.length ∧ 0 < spAt l xs t i) hi0
    have F : First l xs t i := ⟨ht, hi, hp, fun j hj => Int.not_lt.1 fun q => imin j hj ⟨by omega, q⟩, fun s hs j hj => Int.not_lt.1 fun q => hmin s hs ⟨by omega, j, hj, q⟩⟩
    rw [fsM_yes h F]
    have : 0 < totK (soM l xs) l.length := tp.2.2 ⟨i, hi, by rw [soM_get h hi]; exact (soK_pos hl hx _ i (Nat.le_refl _) hi).2 ⟨t, ht, hp⟩⟩
    exact (decide_eq_true this).symm
  · have none : ∀ t, t < xs.length → ∀ j, j < l.length → spAt l xs t j ≤ 0 := fun t ht j hj => Int.not_lt.1 fun q => e ⟨t, ht, j, hj, q⟩
    rw [fsM_no none]
    refine (decide_eq_false fun q => ?_).symm
    obtain ⟨i, hi, hp⟩ := tp.2.1 q
    rw [soM_get h hi] at hp
    obtain ⟨t, ht, hp⟩ := (soK_pos hl hx _ i (Nat.le_refl _) hi).1 hp
    have := none t ht i hi
    omega

/-! ### rows behind rows -/
theorem inK_left (a b : List (Int × Int × Int)) (x : Int) (j : Nat) (hj : j ≤ a.length) : inK (a ++ b) x j = inK a x j := by
  induction j with
  | zero => rfl
  | succ j ih =>
    show ouB ((a ++ b)[j]?.getD (0, 0, 0)) (inK (a ++ b) x j) = ouB (a[j]?.getD (0, 0, 0)) (inK a x j)
    rw [ih (by omega), List.getElem?_append_left (by omega)]
theorem inK_right (a b : List (Int × Int × Int)) (x : Int) (j : Nat) : inK (a ++ b) x (a.length + j) = inK b (giveL a x) j := by
  induction j with
  | zero => exact inK_left a b x _ (Nat.le_refl _)
  | succ j ih =>
    show ouB ((a ++ b)[a.length + j]?.getD (0, 0, 0)) (inK (a ++ b) x (a.length + j)) = ouB (b[j]?.getD (0, 0, 0)) (inK b (giveL a x) j)
    rw [ih, List.getElem?_append_right (by omega), Nat.add_sub_cancel_left]
theorem give_app (a b : List (Int × Int × Int)) (x : Int) : giveL (a ++ b) x = giveL b (giveL a x) := by
  have e := inK_right a b x b.length
  rw [← List.length_append] at e
  exact e
theorem tick_app (a b : List (Int × Int × Int)) (x : Int) : tickL (a ++ b) x = tickL a x ++ tickL b (giveL a x) := by
  refine List.ext_getElem? fun i => ?_
  by_cases h1 : i < a.length
  · rw [List.getElem?_append_left (by rw [tickL_length]; exact h1)]
    unfold tickL newK
    rw [List.getElem?_map, List.getElem?_map, List.getElem?_range (by rw [List.length_append]; omega), List.getElem?_range h1]
    simp only [Option.map_some]
    rw [inK_left _ _ _ _ (by omega), List.getElem?_append_left h1]
  · rw [List.getElem?_append_right (by rw [tickL_length]; omega), tickL_length]
    by_cases h2 : i < a.length + b.length
    · obtain ⟨j, rfl⟩ : ∃ j, i = a.length + j := ⟨i - a.length, by omega⟩
      rw [Nat.add_sub_cancel_left]
      unfold tickL newK
      rw [List.getElem?_map, List.getElem?_map, List.getElem?_range (by rw [List.length_append]; omega), List.getElem?_range (by omega)]
      simp only [Option.map_some]
      rw [inK_right, List.getElem?_append_right (by omega), Nat.add_sub_cancel_left]
    · rw [List.getElem?_eq_none (by rw [tickL_length, List.length_append]; omega), List.getElem?_eq_none (by rw [tickL_length]; omega)]
theorem row_app (a b : List (Int × Int × Int)) (xs : List Int) (n k : Nat) (hk : k ≤ n) : rowK (a ++ b) xs k = rowK a xs k ++ rowK b (givesTo a xs n) k := by
  induction k with
  | zero => rfl
  | succ k ih =>
    show tickL (rowK (a ++ b) xs k) (xs[k]?.getD 0) = tickL (rowK a xs k) (xs[k]?.getD 0) ++ tickL (rowK b (givesTo a xs n) k) ((givesTo a xs n)[k]?.getD 0)
    rw [ih (by omega), tick_app, givesTo_get _ _ _ _ (by omega)]
    rfl
theorem gives_app (a b : List (Int × Int × Int)) (xs : List Int) (n : Nat) : givesTo (a ++ b) xs n = givesTo b (givesTo a xs n) n := by
  refine List.map_congr_left fun t ht => ?_
  have ht := List.mem_range.1 ht
  show giveL (rowK (a ++ b) xs t) (xs[t]?.getD 0) = giveL (rowK b (givesTo a xs n) t) ((givesTo a xs n)[t]?.getD 0)
  rw [row_app a b xs n t (by omega), give_app, givesTo_get _ _ _ _ ht]
  rfl
theorem join_ok {a b : List (Int × Int × Int)} (h : jnB a b = true) : rowB a = true ∧ rowB b = true ∧ rowB (a ++ b) = true := by
  unfold jnB at h
  rw [Bool.and_eq_true, Bool.and_eq_true, decide_eq_true_eq] at h
  obtain ⟨h1, h2, h3⟩ := h
  refine ⟨h1, h2, rowB_iff.2 ?_⟩
  have o1 := rowB_iff.1 h1
  have o2 := rowB_iff.1 h2
  refine ⟨by rw [List.length_append]; have := o1.1; omega, by rw [List.length_append]; exact h3, fun j hj => ?_⟩
  rw [List.length_append] at hj
  by_cases e : j < a.length
  · rw [List.getElem?_append_left e]; exact o1.2.2 j e
  · rw [List.getElem?_append_right (by omega)]; exact o2.2.2 _ (by omega)
theorem join_run {a b : List (Int × Int × Int)} {xs : List Int} (h : jnB a b = true) (hx : flowB xs = true) :
    askB a xs = true ∧ askB (jnM a b) xs = true ∧ (flowB (runM a xs) = true → askB b (runM a xs) = true ∧ runM b (runM a xs) = runM (jnM a b) xs) := by
  obtain ⟨h1, h2, h3⟩ := join_ok h
  have e : jnM a b = a ++ b := by unfold jnM; rw [if_pos h]
  have a1 : askB a xs = true := by unfold askB; rw [h1, hx]; rfl
  have a2 : askB (jnM a b) xs = true := by rw [e]; unfold askB; rw [h3, hx]; rfl
  refine ⟨a1, a2, fun hf => ?_⟩
  have a3 : askB b (runM a xs) = true := by unfold askB; rw [h2, hf]; rfl
  refine ⟨a3, ?_⟩
  have e1 : runM (jnM a b) xs = givesTo (jnM a b) xs xs.length := by unfold runM; rw [if_pos a2]
  have e2 : runM b (runM a xs) = givesTo b (runM a xs) (runM a xs).length := by
    have q : ∀ ys, askB b ys = true → runM b ys = givesTo b ys ys.length := fun ys hy => by unfold runM; rw [if_pos hy]
    exact q _ a3
  have e3 : runM a xs = givesTo a xs xs.length := by unfold runM; rw [if_pos a1]
  rw [e1, e2, e, e3, givesTo_length, gives_app]
/-- The last of the running totals. -/
theorem tot_last {f : List Int} (h : flowB f = true) : (totM f).length = f.length ∧ ∀ k, f.length = k + 1 → (totM f)[k]?.getD 0 = totK f f.length := by
  have e : totM f = totsTo f f.length := by unfold totM; rw [if_pos h]
  rw [e]
  refine ⟨totsTo_length _ _, fun k hk => ?_⟩
  rw [totsTo_get _ _ _ (by omega), hk]
  rfl
theorem tot_none {f : List Int} (h : flowB f = false) : totM f = [] := by unfold totM; rw [h]; rfl
/-- What the basin i holds behind all ticks. -/
theorem along_last {l : List (Int × Int × Int)} {xs : List Int} (h : askB l xs = true) {i : Nat} (hi : i < l.length) :
    plB l (i : Int) xs = true ∧ (haM l (i : Int) xs).length = xs.length ∧ ∀ k, xs.length = k + 1 → (haM l (i : Int) xs)[k]?.getD 0 = ((rowK l xs xs.length)[i]?.getD (0, 0, 0)).2.2 := by
  have p : plB l (i : Int) xs = true := by
    unfold plB
    rw [h, Bool.true_and, inB_iff]
    omega
  have e : haM l (i : Int) xs = haTo l xs i xs.length := by unfold haM; rw [if_pos p]; rfl
  rw [e]
  refine ⟨p, haTo_length _ _ _ _, fun k hk => ?_⟩
  rw [haTo_get _ _ _ _ _ (by omega), hk]
  rfl
end Go.Proofs.Ytchnnbkaiagpgaa
