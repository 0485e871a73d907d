/- Basins rest: what the law says of the numbers. -/
import Derived.Test.YtchnnbkaiagpgaaRkm
import Derived.Test.YtchnnbkaiagpgaaSth
import Derived.Test.YtchnnbkaiagpgaaLsM
import Derived.Test.YtchnnbkaiagpgaaDrr
namespace Go.Proofs.Ytchnnbkaiagpgaa
open Go.RowKit

theorem rest_ex {x : Int} {l : List (Int × Int × Int)} (hl : RowOk l) (hx : 0 ≤ x) : ∃ n, Rest x l n := by
  have key : ∀ m n, muL x (goK x l n) ≤ m → Way x l n → ∃ n, Rest x l n := by
    intro m
    induction m with
    | zero =>
      intro n hm hw
      by_cases e : tickL (goK x l n) x = goK x l n
      · exact ⟨n, hw.rest e⟩
      · have := (hw.succ hl hx e).2; omega
    | succ m ih =>
      intro n hm hw
      by_cases e : tickL (goK x l n) x = goK x l n
      · exact ⟨n, hw.rest e⟩
      · exact ih (n + 1) (by have := (hw.succ hl hx e).2; omega) (hw.succ hl hx e).1
  exact key _ 0 (Nat.le_refl _) (Way.zero x l)
/-- Whether one of the first k basins holds water; whether one without an outlet lies behind water. -/
def someK (l : List (Int × Int × Int)) : Nat → Bool
  | 0 => false
  | k + 1 => someK l k || decide (0 < (l[k]?.getD (0, 0, 0)).2.2)
def stuckK (l : List (Int × Int × Int)) : Nat → Bool
  | 0 => false
  | k + 1 => stuckK l k || (someK l (k + 1) && decide ((l[k]?.getD (0, 0, 0)).2.1 = 0))
theorem someK_held {l : List (Int × Int × Int)} (hl : RowOk l) (k : Nat) (hk : k ≤ l.length) : someK l k = true ↔ 0 < heldK l k := by
  induction k with
  | zero => simp [someK, heldK]
  | succ k ih =>
    have q := ih (by omega)
    have h1 := heldK_bd hl k (by omega)
    have h2 := hl.2.2 k (by omega)
    unfold BasOk at h2
    unfold someK heldK
    rw [Bool.or_eq_true, q, decide_eq_true_eq]
    omega
theorem stuckK_iff (l : List (Int × Int × Int)) (k : Nat) : stuckK l k = true ↔ ∃ i, i < k ∧ someK l (i + 1) = true ∧ (l[i]?.getD (0, 0, 0)).2.1 = 0 := by
  induction k with
  | zero => exact ⟨fun q => by simp [stuckK] at q, fun ⟨i, hi, _⟩ => absurd hi (by omega)⟩
  | succ k ih =>
    show (stuckK l k || (someK l (k + 1) && decide ((l[k]?.getD (0, 0, 0)).2.1 = 0))) = true ↔ _
    rw [Bool.or_eq_true, ih, Bool.and_eq_true, decide_eq_true_eq]
    constructor
    · rintro (⟨i, hi, h1, h2⟩ | ⟨h1, h2⟩)
      · exact ⟨i, by omega, h1, h2⟩
      · exact ⟨k, by omega, h1, h2⟩
    · rintro ⟨i, hi, h1, h2⟩
      by_cases e : i = k
      · subst e; exact .inr ⟨h1, h2⟩
      · exact .inl ⟨i, by omega, h1, h2⟩
theorem tickL_par (l : List (Int × Int × Int)) (x : Int) (j : Nat) : ((tickL l x)[j]?.getD (0, 0, 0)).1 = (l[j]?.getD (0, 0, 0)).1 ∧ ((tickL l x)[j]?.getD (0, 0, 0)).2.1 = (l[j]?.getD (0, 0, 0)).2.1 := by
  by_cases h : j < l.length
  · rw [tickL_get _ _ _ h]; exact ⟨rfl, rfl⟩
  · rw [List.getElem?_eq_none (by rw [tickL_length]; omega), List.getElem?_eq_none (by omega)]; exact ⟨rfl, rfl⟩
theorem goK_par (x : Int) (l : List (Int × Int × Int)) (n j : Nat) : ((goK x l n)[j]?.getD (0, 0, 0)).1 = (l[j]?.getD (0, 0, 0)).1 ∧ ((goK x l n)[j]?.getD (0, 0, 0)).2.1 = (l[j]?.getD (0, 0, 0)).2.1 := by
  induction n with
  | zero => exact ⟨rfl, rfl⟩
  | succ n ih =>
    have q := tickL_par (goK x l n) x j
    exact ⟨q.1.trans ih.1, q.2.trans ih.2⟩
theorem stuck_tick {l : List (Int × Int × Int)} (hl : RowOk l) {i : Nat} (hi : i < l.length) (ho : (l[i]?.getD (0, 0, 0)).2.1 = 0) (h : 0 < heldK l (i + 1)) : 0 < heldK (tickL l 0) (i + 1) := by
  have k := in_keep l 0 (i + 1) (by omega)
  have hin := inK_bd hl (Int.le_refl 0) i (by omega)
  have hb := hl.2.2 i hi
  have r := ruB_bd hb hin.1
  have s := spB_bd hb hin.1
  have h0 := heldK_bd (tickL_ok hl (Int.le_refl 0)) i (by rw [tickL_length]; omega)
  have e1 : inK l 0 (i + 1) = ouB (l[i]?.getD (0, 0, 0)) (inK l 0 i) := rfl
  have e2 : heldK (tickL l 0) (i + 1) = heldK (tickL l 0) i + leB (l[i]?.getD (0, 0, 0)) (inK l 0 i) := by
    show heldK (tickL l 0) i + ((tickL l 0)[i]?.getD (0, 0, 0)).2.2 = _
    rw [tickL_get _ _ _ hi]; rfl
  rw [e1] at k
  unfold BasOk at hb
  by_cases hs : 0 < spB (l[i]?.getD (0, 0, 0)) (inK l 0 i)
  · have : leB (l[i]?.getD (0, 0, 0)) (inK l 0 i) = (l[i]?.getD (0, 0, 0)).1 := by
      unfold leB
      unfold spB at hs ⊢
      unfold ruB at r ⊢
      unfold spB at r ⊢
      omega
    omega
  · unfold ouB at k
    omega
theorem stuck_go {l : List (Int × Int × Int)} (hl : RowOk l) {i : Nat} (hi : i < l.length) (ho : (l[i]?.getD (0, 0, 0)).2.1 = 0) (h : 0 < heldK l (i + 1)) (n : Nat) : 0 < heldK (goK 0 l n) (i + 1) := by
  induction n with
  | zero => exact h
  | succ n ih => exact stuck_tick (goK_ok hl (Int.le_refl 0) n) (by rw [goK_length]; exact hi) (by rw [(goK_par 0 l n i).2]; exact ho) ih
theorem empty_tick {l : List (Int × Int × Int)} (hl : RowOk l) {k : Nat} (hk : k ≤ l.length) (h : heldK l k = 0) : heldK (tickL l 0) k = 0 := by
  have e := in_keep l 0 k hk
  have a := inK_bd hl (Int.le_refl 0) k hk
  have b := heldK_bd (tickL_ok hl (Int.le_refl 0)) k (by rw [tickL_length]; exact hk)
  omega
theorem empty_go {l : List (Int × Int × Int)} (hl : RowOk l) {k : Nat} (hk : k ≤ l.length) (h : heldK l k = 0) (n : Nat) : heldK (goK 0 l n) k = 0 := by
  induction n with
  | zero => exact h
  | succ n ih => exact empty_tick (goK_ok hl (Int.le_refl 0) n) (by rw [goK_length]; exact hk) ih
theorem heldK_mono {l : List (Int × Int × Int)} (hl : RowOk l) {j k : Nat} (hjk : j ≤ k) (hk : k ≤ l.length) : heldK l j ≤ heldK l k := by
  induction k with
  | zero => obtain rfl : j = 0 := by omega
            exact Int.le_refl _
  | succ k ih =>
    by_cases e : j = k + 1
    · subst e; exact Int.le_refl _
    · have q := ih (by omega) (by omega)
      have h2 := hl.2.2 k (by omega)
      unfold BasOk at h2
      show heldK l j ≤ heldK l k + (l[k]?.getD (0, 0, 0)).2.2
      omega
/-- A row empties, if no basin without an outlet lies behind water. -/
theorem tte_iff {l : List (Int × Int × Int)} (h : rowB l = true) : (tteM l).2 = !stuckK l l.length := by
  have hl := rowB_iff.1 h
  obtain ⟨n, hr⟩ := rest_ex (x := 0) hl (Int.le_refl 0)
  have okR := goK_ok hl (Int.le_refl 0) n
  have lR := goK_length 0 l n
  cases hs : stuckK l l.length with
  | true =>
    obtain ⟨i, hi, h1, h2⟩ := (stuckK_iff l l.length).1 hs
    have p := stuck_go hl hi h2 ((someK_held hl (i + 1) (by omega)).1 h1) n
    have m := heldK_mono okR (j := i + 1) (k := (goK 0 l n).length) (by omega) (Nat.le_refl _)
    rw [tteM_no hl hr (by unfold heldS; omega)]
    rfl
  | false =>
    by_cases h0 : heldS (goK 0 l n) = 0
    · rw [tteM_yes hl hr h0]; rfl
    · exfalso
      have hp : ∃ j, j < (goK 0 l n).length ∧ 0 < ((goK 0 l n)[j]?.getD (0, 0, 0)).2.2 := by
        have z := heldK_zero okR (goK 0 l n).length (Nat.le_refl _)
        by_cases e : ∃ j, j < (goK 0 l n).length ∧ 0 < ((goK 0 l n)[j]?.getD (0, 0, 0)).2.2
        · exact e
        · exact absurd (z.2 fun j hj => by
            have q := okR.2.2 j hj
            unfold BasOk at q
            have : ¬ 0 < ((goK 0 l n)[j]?.getD (0, 0, 0)).2.2 := fun q => e ⟨j, hj, q⟩
            omega) h0
      obtain ⟨j, hj, hp⟩ := hp
      have k0 := in_keep (goK 0 l n) 0 j (by omega)
      have k1 := in_keep (goK 0 l n) 0 (j + 1) (by omega)
      rw [hr.1] at k0 k1
      have e1 : inK (goK 0 l n) 0 (j + 1) = ouB ((goK 0 l n)[j]?.getD (0, 0, 0)) (inK (goK 0 l n) 0 j) := rfl
      have i0 : inK (goK 0 l n) 0 j = 0 := by omega
      rw [e1, i0] at k1
      have q := okR.2.2 j hj
      have s := spB_bd q (Int.le_refl 0)
      unfold BasOk at q
      have ho : ((goK 0 l n)[j]?.getD (0, 0, 0)).2.1 = 0 := by
        unfold ouB ruB at k1
        omega
      have hq : someK l (j + 1) = true := by
        cases hh : someK l (j + 1) with
        | true => rfl
        | false =>
          exfalso
          have b := heldK_bd hl (j + 1) (by omega)
          have z : heldK l (j + 1) = 0 := by
            by_cases p : 0 < heldK l (j + 1)
            · rw [(someK_held hl (j + 1) (by omega)).2 p] at hh; cases hh
            · omega
          have e := empty_go hl (k := j + 1) (by omega) z n
          have b2 := heldK_bd okR j (by omega)
          have e2 : heldK (goK 0 l n) (j + 1) = heldK (goK 0 l n) j + ((goK 0 l n)[j]?.getD (0, 0, 0)).2.2 := rfl
          omega
      have : stuckK l l.length = true := (stuckK_iff l l.length).2 ⟨j, by omega, hq, by rw [← (goK_par 0 l n j).2]; exact ho⟩
      rw [hs] at this
      cases this
/-- Empty as soon as told. -/
theorem tte_true {l : List (Int × Int × Int)} (h : (tteM l).2 = true) : rowB l = true ∧ ∃ n : Nat, (tteM l).1 = (n : Int) ∧ heldS (goK 0 l n) = 0 ∧ (n : Int) < 1010000000000000000 ∧ ∀ m, n = m + 1 → heldS (goK 0 l m) ≠ 0 := by
  have hb : rowB l = true := by
    cases e : rowB l with
    | true => rfl
    | false => rw [tteM_bad e] at h; cases h
  have hl := rowB_iff.1 hb
  obtain ⟨n, hr⟩ := rest_ex (x := 0) hl (Int.le_refl 0)
  by_cases h0 : heldS (goK 0 l n) = 0
  · rw [tteM_yes hl hr h0]
    refine ⟨hb, n, rfl, h0, ?_, fun m hm hz => ?_⟩
    · have w : ∀ k, k ≤ n → Way 0 l k := by
        intro k hk
        induction k with
        | zero => exact Way.zero 0 l
        | succ k ih => exact (Way.succ hl (Int.le_refl 0) (ih (by omega)) (hr.2 k (by omega))).1
      have := (w n (Nat.le_refl _)).small hl
      omega
    · exact hr.2 m (by omega) (empty_rest (goK_ok hl (Int.le_refl 0) m) hz)
  · rw [tteM_no hl hr h0] at h; cases h
/-- No flow for t ticks. -/
theorem no_flow (l : List (Int × Int × Int)) (t k : Nat) : rowK l (List.replicate t 0) k = goK 0 l k := by
  induction k with
  | zero => rfl
  | succ k ih =>
    show tickL (rowK l (List.replicate t 0) k) ((List.replicate t (0 : Int))[k]?.getD 0) = tickL (goK 0 l k) 0
    rw [ih, List.getElem?_replicate]
    split <;> rfl
theorem no_flow_ask {l : List (Int × Int × Int)} (h : rowB l = true) (t : Nat) (ht : t ≤ 60) : askB l (List.replicate t 0) = true ∧ afterM l (List.replicate t 0) = goK 0 l t := by
  have a : askB l (List.replicate t 0) = true := by
    refine askB_iff.2 ⟨rowB_iff.1 h, by rw [List.length_replicate]; exact ht, fun j hj => ?_⟩
    rw [List.getElem?_replicate]
    split <;> simp
  refine ⟨a, ?_⟩
  unfold afterM
  rw [if_pos a, List.length_replicate]
  exact no_flow l t t
theorem made_none (w : World) (n : Nat) (hn : n ≤ 1000) : Ints (w.alloc (.cells (madeCells #[.int .i64 0] (n * 1)) 3)) (some ⟨w.heap.size, 0, none⟩) n n (List.replicate n 0) := by
  rw [Nat.mul_one, madeCells_eq]
  refine ⟨by simp, Nat.le_refl _, by omega, fun j hj => ⟨_, _, rfl, ?_⟩, fun e => by cases e⟩
  simp [hj]

/-! ### rest under a flow -/
def restTo (l : List (Int × Int × Int)) (st : List Int) (k : Nat) : List (Int × Int × Int) := (List.range k).map fun j => ((l[j]?.getD (0, 0, 0)).1, (l[j]?.getD (0, 0, 0)).2.1, st[j]?.getD 0)
theorem restTo_length (l : List (Int × Int × Int)) (st : List Int) (k : Nat) : (restTo l st k).length = k := by simp [restTo]
theorem restTo_succ (l : List (Int × Int × Int)) (st : List Int) (k : Nat) : restTo l st (k + 1) = restTo l st k ++ [((l[k]?.getD (0, 0, 0)).1, (l[k]?.getD (0, 0, 0)).2.1, st[k]?.getD 0)] := by simp [restTo, List.range_succ]
theorem steady_row {l : List (Int × Int × Int)} {x : Int} (h : frB l x = true) : (stM l x).length = l.length ∧
    trB (restTo l (stM l x) l.length) x = true ∧ trL (restTo l (stM l x) l.length) x = restTo l (stM l x) l.length ∧ trG (restTo l (stM l x) l.length) x = x ∧ frB (restTo l (stM l x) l.length) x = true ∧ stM (restTo l (stM l x) l.length) x = stM l x := by
  obtain ⟨hl, h0, h1⟩ := frB_iff.1 h
  obtain ⟨n, hr⟩ := rest_ex hl h0
  have es : stM l x = hsTo (goK x l n) l.length := by unfold stM; rw [if_pos h, hr.eq]
  have eQ : restTo l (stM l x) l.length = goK x l n := by
    apply List.ext_getElem (by rw [restTo_length, goK_length])
    intro j a b
    rw [goK_length] at b
    have e1 : (goK x l n)[j] = (goK x l n)[j]?.getD (0, 0, 0) := by simp [List.getElem?_eq_getElem (show j < (goK x l n).length by rw [goK_length]; exact b)]
    rw [e1]
    have p := goK_par x l n j
    have g := hsTo_get (goK x l n) l.length j b
    rw [← es] at g
    simp only [restTo, List.getElem_map, List.getElem_range]
    rw [g, ← p.1, ← p.2]
  have okQ := goK_ok hl h0 n
  have t := trB_iff.2 ⟨okQ, h0, h1⟩
  have f := frB_iff.2 ⟨okQ, h0, h1⟩
  have r0 : Rest x (goK x l n) 0 := ⟨hr.1, fun m hm => absurd hm (by omega)⟩
  rw [eQ]
  refine ⟨by rw [es, hsTo_length], t, ?_, ?_, f, ?_⟩
  · unfold trL; rw [if_pos t]; exact hr.1
  · have k := tick_keep (goK x l n) x
    rw [hr.1] at k
    unfold trG; rw [if_pos t]; omega
  · have : stM (goK x l n) x = hsTo (goK x (goK x l n) 0) (goK x l n).length := by unfold stM; rw [if_pos f, r0.eq]
    rw [this, es, goK_length]
    rfl

/-! ### the least size -/
theorem least_any {l : List (Int × Int × Int)} {i : Int} {xs : List Int} (h : (lsM l i xs).2 = true) :
    plB l i xs = true ∧ ∃ k : Nat, i = (k : Int) ∧ k < l.length ∧ askB l xs = true ∧ 1 ≤ (lsM l i xs).1 ∧ (lsM l i xs).1 ≤ 1000 ∧
      ∀ s : Int, 1 ≤ s → (l[k]?.getD (0, 0, 0)).2.2 ≤ s → s ≤ (lsM l i xs).1 → askB (setS l k s) xs = true ∧ (0 < (soM (setS l k s) xs)[k]?.getD 0 ↔ s < (lsM l i xs).1) := by
  have hb : lsB l i xs = true := by
    cases e : lsB l i xs with
    | true => rfl
    | false => unfold lsM at h; rw [e] at h; cases h
  have hp : pkI l xs i.toNat xs.length ≤ 1000 := by
    by_cases q : pkI l xs i.toNat xs.length ≤ 1000
    · exact q
    · unfold lsM at h; rw [if_pos hb, if_neg q] at h; cases h
  have em : (lsM l i xs).1 = pkI l xs i.toNat xs.length := by unfold lsM; rw [if_pos hb, if_pos hp]
  have hb' := hb
  unfold lsB at hb'
  rw [Bool.and_eq_true, inB_iff] at hb'
  obtain ⟨ha, hi⟩ := hb'
  obtain ⟨hl, hx⟩ := askB_iff.1 ha
  obtain ⟨k, rfl⟩ := Int.eq_ofNat_of_zero_le hi.1
  have hk : k < l.length := by omega
  rw [em]
  rw [show (k : Int).toNat = k from rfl] at hp ⊢
  have bd := pkI_bd hl hx hk xs.length (Nat.le_refl _)
  refine ⟨hb, k, rfl, hk, ha, bd.1, hp, fun s s1 sh s2 => ?_⟩
  have okS := setS_ok hl k s hk s1 (by omega) sh
  have aS := askB_iff.2 ⟨okS, hx⟩
  have hkS : k < (setS l k s).length := by rw [setS_length]; exact hk
  refine ⟨aS, ?_⟩
  rw [soM_get aS hkS]
  have p := soK_pos okS hx xs.length k (Nat.le_refl _) hkS
  have n := never_iff (l := l) (xs := xs) (i := k) (m := xs.length) (s := s) hk (by show max 1 _ ≤ s; omega) (by omega)
  rw [p]
  constructor
  · rintro ⟨t, ht, q⟩
    by_cases e : s < pkI l xs k xs.length
    · exact e
    · have := n.2 (by omega) t ht
      omega
  · intro q
    by_cases e : ∃ t, t < xs.length ∧ 0 < spAt (setS l k s) xs t k
    · exact e
    · have := n.1 fun t ht => Int.not_lt.1 fun q => e ⟨t, ht, q⟩
      omega
end Go.Proofs.Ytchnnbkaiagpgaa
