/- What the map of ticks holds; the ticks that are too early are taken out. -/
import Derived.Test.YtafiihhiipfejaaMapL
import Derived.Test.YtafiihhiipfejaaRows2b
namespace Go.Proofs.Ytafiihhiipfejaa
open Go.RowKit Go.Maps

/-- How levels are told as keys. -/
def KeyFn (kf : List (Int × Bool) → Lit) : Prop := ∀ L, (∀ i, 0 ≤ (lvAt L i).1 ∧ (lvAt L i).1 ≤ 60) → keyOf Try.prog 62 (fourV L) = some (kf L)
theorem keyFn_ex : ∃ kf, KeyFn kf := ⟨fun L => (keyOf Try.prog 62 (fourV L)).getD (.bool false), fun L h => by
  obtain ⟨l, hl⟩ := keyOf_four L h
  simp [hl]⟩
theorem fourV_inj {L M : List (Int × Bool)} (hL : L.length = 4) (hM : M.length = 4) (h : fourV L = fourV M) : L = M := by
  simp only [Value.agg.injEq, Array.mk.injEq, List.cons.injEq, Value.int.injEq, Value.bool.injEq, true_and, and_true] at h
  obtain ⟨a0, b0, a1, b1, a2, b2, a3, b3⟩ := h
  match L, hL, M, hM with
  | [p0, p1, p2, p3], _, [q0, q1, q2, q3], _ =>
    have e0 : p0 = q0 := Prod.ext a0 b0
    have e1 : p1 = q1 := Prod.ext a1 b1
    have e2 : p2 = q2 := Prod.ext a2 b2
    have e3 : p3 = q3 := Prod.ext a3 b3
    rw [e0, e1, e2, e3]
theorem kf_inj {kf : List (Int × Bool) → Lit} (K : KeyFn kf) {L M : List (Int × Bool)} (hL : L.length = 4) (hM : M.length = 4) (bL : ∀ i, 0 ≤ (lvAt L i).1 ∧ (lvAt L i).1 ≤ 60) (bM : ∀ i, 0 ≤ (lvAt M i).1 ∧ (lvAt M i).1 ≤ 60) (h : kf L = kf M) : L = M := by
  have h1 := K L bL
  have h2 := K M bM
  rw [← h] at h2
  exact fourV_inj hL hM (chLaw.inj h1 h2)

/-- How many of the first n. -/
def cntOf (S : Nat → Bool) : Nat → Nat
  | 0 => 0
  | n + 1 => cntOf S n + if S n = true then 1 else 0
theorem cntOf_congr {S T : Nat → Bool} {n : Nat} (h : ∀ i, i < n → S i = T i) : cntOf S n = cntOf T n := by
  induction n with
  | zero => rfl
  | succ n ih => unfold cntOf; rw [ih fun i hi => h i (by omega), h n (by omega)]
theorem cntOf_del {S : Nat → Bool} {n i : Nat} (hi : i < n) (hS : S i = true) : cntOf (fun j => S j && !decide (j = i)) n + 1 = cntOf S n := by
  induction n with
  | zero => omega
  | succ n ih =>
    unfold cntOf
    by_cases e : i = n
    · subst e
      have : cntOf (fun j => S j && !decide (j = i)) i = cntOf S i := cntOf_congr fun j hj => by
        rw [decide_eq_false (by omega)]; simp
      rw [this]
      simp [hS]
    · have q := ih (by omega)
      have : (S n && !decide (n = i)) = S n := by rw [decide_eq_false (by omega)]; simp
      rw [this]
      omega
theorem cntOf_all (n : Nat) : cntOf (fun _ => true) n = n := by
  induction n with
  | zero => rfl
  | succ n ih => unfold cntOf; rw [ih]; simp
theorem cntOf_from (lo n : Nat) (h : lo ≤ n) : cntOf (fun j => decide (lo ≤ j)) n = n - lo := by
  induction n with
  | zero => have : lo = 0 := by omega
            subst this; rfl
  | succ n ih =>
    unfold cntOf
    by_cases e : lo = n + 1
    · subst e
      have : cntOf (fun j => decide (n + 1 ≤ j)) n = 0 := by
        have q : cntOf (fun j => decide (n + 1 ≤ j)) n = cntOf (fun _ => false) n := cntOf_congr fun j hj => decide_eq_false (by omega)
        rw [q]
        clear q ih
        induction n with
        | zero => rfl
        | succ n ih => unfold cntOf; rw [ih (by omega)]; simp
      rw [this]
      simp
    · rw [ih (by omega), if_pos (decide_eq_true (by omega))]
      omega

/-- The map holds the ticks i below n for which S tells so, each at its levels. -/
structure Ticks (kf : List (Int × Bool) → Lit) (D : DataW Unit) (F : Nat → List (Int × Bool)) (S : Nat → Bool) (n : Nat) : Prop where
  has_ : ∀ kl, has D kl = true ↔ ∃ i, i < n ∧ S i = true ∧ kf (F i) = kl
  at_ : ∀ i z, i < n → S i = true → D.atKey (kf (F i)) z = .lit (.int .i64 i)
  size : Maps.size D = cntOf S n
def Apart (kf : List (Int × Bool) → Lit) (F : Nat → List (Int × Bool)) (n : Nat) : Prop := ∀ i j, i < n → j < n → kf (F i) = kf (F j) → i = j
theorem Ticks.nil (kf : List (Int × Bool) → Lit) (F : Nat → List (Int × Bool)) : Ticks kf (.map []) F (fun _ => true) 0 :=
  ⟨fun kl => by simp [has], fun i z hi => absurd hi (by omega), rfl⟩
theorem Ticks.congr {kf : List (Int × Bool) → Lit} {D : DataW Unit} {F : Nat → List (Int × Bool)} {S T : Nat → Bool} {n : Nat} (h : Ticks kf D F S n) (e : ∀ i, i < n → S i = T i) : Ticks kf D F T n := by
  refine ⟨fun kl => ?_, fun i z hi hT => h.at_ i z hi (by rw [e i hi]; exact hT), h.size.trans (cntOf_congr e)⟩
  rw [h.has_]
  constructor
  · rintro ⟨i, a, b, c⟩; exact ⟨i, a, by rw [← e i a]; exact b, c⟩
  · rintro ⟨i, a, b, c⟩; exact ⟨i, a, by rw [e i a]; exact b, c⟩
theorem Ticks.put {kf : List (Int × Bool) → Lit} {D : DataW Unit} {F : Nat → List (Int × Bool)} {n : Nat} (h : Ticks kf D F (fun _ => true) n) (ht : Tidy D) (hk : WideAt.IsKeyLit (kf (F n))) (hne : ∀ i, i < n → kf (F i) ≠ kf (F n)) :
    Ticks kf (D.put (kf (F n)) (.lit (.int .i64 n))) F (fun _ => true) (n + 1) := by
  have hf : has D (kf (F n)) = false := by
    rw [← Bool.not_eq_true, h.has_]
    rintro ⟨i, hi, _, e⟩
    exact hne i hi e
  refine ⟨fun kl => ?_, fun i z hi _ => ?_, ?_⟩
  · by_cases e : kl = kf (F n)
    · subst e
      rw [has_put_same ht.isMap hk]
      exact ⟨fun _ => ⟨n, by omega, rfl, rfl⟩, fun _ => rfl⟩
    · rw [has_put_other e, h.has_]
      constructor
      · rintro ⟨i, a, b, c⟩; exact ⟨i, by omega, b, c⟩
      · rintro ⟨i, a, b, c⟩
        refine ⟨i, ?_, b, c⟩
        by_cases q : i = n
        · subst q; exact absurd c.symm e
        · omega
  · by_cases e : i = n
    · subst e
      exact atKey_put_same ht.isMap hk _ _
    · rw [atKey_put_other (hne i (by omega))]
      exact h.at_ i z (by omega) rfl
  · rw [size_put ht, hf, h.size, cntOf_all, cntOf_all]
    rfl
theorem Ticks.del {kf : List (Int × Bool) → Lit} {D : DataW Unit} {F : Nat → List (Int × Bool)} {S : Nat → Bool} {n i : Nat} (h : Ticks kf D F S n) (ht : Tidy D) (ha : Apart kf F n) (hi : i < n) (hS : S i = true) :
    Ticks kf (D.del (kf (F i))) F (fun j => S j && !decide (j = i)) n := by
  refine ⟨fun kl => ?_, fun j z hj hT => ?_, ?_⟩
  · by_cases e : kl = kf (F i)
    · subst e
      rw [has_del_same]
      constructor
      · intro q; cases q
      · rintro ⟨j, a, b, c⟩
        have := ha j i a hi c
        subst this
        simp at b
    · rw [has_del_other e, h.has_]
      constructor
      · rintro ⟨j, a, b, c⟩
        refine ⟨j, a, ?_, c⟩
        rw [b, decide_eq_false (fun q => e (by rw [← c, q]))]; rfl
      · rintro ⟨j, a, b, c⟩
        refine ⟨j, a, ?_, c⟩
        rw [Bool.and_eq_true] at b
        exact b.1
  · rw [Bool.and_eq_true] at hT
    have hji : j ≠ i := fun e => by subst e; simp at hT
    rw [atKey_del_other (fun e => hji (ha j i hj hi e))]
    exact h.at_ j z hj hT.1
  · have q := size_del (k := kf (F i)) ht
    rw [(h.has_ _).2 ⟨i, hi, hS, rfl⟩, if_pos rfl, h.size, ← cntOf_del hi hS] at q
    omega

set_option maxRecDepth 100000 in
set_option maxHeartbeats 2000000 in
theorem deleteBefore_any {kf : List (Int × Bool) → Lit} (hkf : KeyFn kf) (w : World) (B n lo : Nat) (D : DataW Unit) (F : Nat → List (Int × Bool)) (hown : w.ownsMap Try.prog 62 (plainElem Try.prog 3) B n D) (hT : Ticks kf D F (fun _ => true) n) (ha : Apart kf F n)
    (hb : ∀ i j, i < n → 0 ≤ (lvAt (F i) j).1 ∧ (lvAt (F i) j).1 ≤ 60) :
    Calls Try.prog 51 #[.map (some B), .int .i64 lo] w fun e w' => e = .returned (.tuple #[]) ∧ ∃ D', w'.ownsMap Try.prog 62 (plainElem Try.prog 3) B n D' ∧ Ticks kf D' F (fun j => decide (lo ≤ j)) n ∧ w.grownBy w' (some B) := by
  have HT := Lib.hid hT; clear hT
  have HA := Lib.hid ha; clear ha
  have HB := Lib.hid hb; clear hb
  have KF := Lib.hid hkf; clear hkf
  have HO := Lib.hid hown
  go_enter Try.func51, Try.ntmps51
  go_wp2_with (first
    | (at_range; refine wpList_range_own _ rfl _ 60 rfl 62 3 chLaw Try.underlying60 _ B n _ rfl hown ?_; intro w0 hrg0 hg0 hs0)
    | go_in)
  go_frame
  have RG0 := Lib.hid hrg0; clear hrg0
  have HG0 := Lib.hid hg0; clear hg0
  clear hown hs0
  go_loopw [8] (fun _ wr => ∃ (left : Lit → Bool) (cnt : Nat) (D' : DataW Unit), wr.ranges Try.prog 62 (plainElem Try.prog 3) B w.heap.size n D' left cnt ∧ Ticks kf D' F (fun j => left (kf (F j)) || decide (lo ≤ j)) n ∧ (∀ kl, left kl = true → has D' kl = true) ∧ w.grownBy wr (some B))
    (fun _ wr => wr.rangeLeft B w.heap.size)
  case atStart =>
    refine ⟨_, _, _, RG0.out, HT.out.congr fun i hi => ?_, fun _ h => h, HG0.out.but _⟩
    rw [(HT.out.has_ _).2 ⟨i, hi, rfl, rfl⟩]; rfl
  case round =>
    obtain ⟨left, cnt, D', hrg, hti, hle, hgw⟩ := hrel
    have TI := Lib.hid hti; clear hti
    have LE := Lib.hid hle; clear hle
    have GW := Lib.hid hgw; clear hgw
    have RG := Lib.hid hrg; clear hrg
    go_wp2_with (first
      | (at_next; refine wpList_next_ranges _ rfl _ rfl 62 chLaw (plainElem Try.prog 3) (fun x : Value => x) (Value.int .i64) (fun key kl _ => ⟨key, rfl⟩) (fun v y hv => by obtain ⟨c, rfl, _⟩ := plainElem_int_inv Try.underlying3 hv; exact ⟨c, rfl⟩) B w.heap.size n _ _ _ rfl RG.out ?_ ?_)
      | go_in)
    · intro _ hl0
      go_wp2
      go_end0
      refine ⟨rfl, D', RG.out.owns, TI.out.congr fun i _ => ?_, GW.out⟩
      rw [hl0]; rfl
    · intro x c kl y yp w1 cnt1 hkey hlx hpl hat hrg1 hlt hg1 hs1 hen
      obtain ⟨i, hi, hSi, rfl⟩ := (TI.out.has_ kl).1 (LE.out kl hlx)
      have hki := KF.out (F i) (fun j => HB.out i j hi)
      obtain rfl : x = fourV (F i) := chLaw.inj hkey hki
      have hc : c = i := by
        have q := hat (.lit (.int .i64 0))
        rw [TI.out.at_ i _ hi hSi] at q
        obtain ⟨c', e1, e2, _⟩ := plainElem_int_inv Try.underlying3 hpl
        simp only [Prod.mk.injEq] at e2
        rw [e2.1] at q
        simp at q e1
        omega
      subst hc
      have GW1 := Lib.hid (GW.out.andThen hg1 (fun j hj => by cases hj; exact Or.inl (Nat.le_refl _)))
      have RG1 := Lib.hid hrg1; clear hrg1 hat hpl hkey hg1
      have HKI := Lib.hid hki; clear hki
      have HLX := Lib.hid hlx; clear hlx
      have HSI := Lib.hid hSi; clear hSi
      by_cases hlo : i < lo
      · go_wp2_with (first
          | (at_delete; refine wpList_delete_ranges _ rfl _ _ 60 62 rfl 3 chLaw Try.underlying60 _ B w.heap.size n _ _ _ rfl (RG1.out.alloc _) _ _ rfl HKI.out ?_; intro w2 cnt2 hrg2 hle hturn; go_frame)
          | go_in)
        rw [strike_twice] at hrg2
        go_roundw
        case rel =>
          have hk := chLaw.key HKI.out
          refine ⟨_, cnt2, _, hrg2, (TI.out.del (RG1.out.owns.tidy chLaw) HA.out hi HSI.out).congr fun j hj => ?_, fun kl h => ?_, (GW1.out.andThen (World.grownBy_alloc w1 _ (some B)) (fun j hj => by cases hj; exact Or.inr rfl)).andThen hturn.grown (fun j hj => by cases hj; exact Or.inr rfl)⟩
          · by_cases e : j = i
            · subst e
              rw [WideAt.sameKey_self hk, decide_eq_true rfl, decide_eq_false (show ¬ lo ≤ j by omega)]
              simp
            · rw [sameKey_ne (fun q => e (HA.out j i hj hi q)), decide_eq_false e]
              simp
          · rw [Bool.and_eq_true] at h
            have hne : kl ≠ kf (F i) := fun q => by
              subst q
              rw [WideAt.sameKey_self hk] at h
              simp at h
            rw [has_del_other hne]
            exact LE.out kl h.1
        case measure => rw [hrg2.left_eq, RG.out.left_eq]; omega
      · go_wp2
        go_roundw
        case rel =>
          have hk := chLaw.key HKI.out
          refine ⟨_, cnt1, D', RG1.out.alloc _, TI.out.congr fun j hj => ?_, fun kl h => LE.out kl (by rw [Bool.and_eq_true] at h; exact h.1), GW1.out.andThen (World.grownBy_alloc w1 _ (some B)) (fun j hj => by cases hj; exact Or.inr rfl)⟩
          by_cases e : j = i
          · subst e
            rw [decide_eq_true (show lo ≤ j by omega)]
            simp
          · rw [sameKey_ne (fun q => e (HA.out j i hj hi q))]
            simp
        case measure => rw [(RG1.out.alloc _).left_eq, RG.out.left_eq]; exact hlt
end Go.Proofs.Ytafiihhiipfejaa
