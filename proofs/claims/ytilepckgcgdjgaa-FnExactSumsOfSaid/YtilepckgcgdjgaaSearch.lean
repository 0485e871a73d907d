/- The program's search as it lies in memory: places, plans, layers, numbers by what is held. -/
import Derived.Test.YtilepckgcgdjgaaPlAll
import Derived.Test.YtilepckgcgdjgaaMap5
import Derived.Test.YtilepckgcgdjgaaOnI
import Derived.Deep.RegionLawGrows
import Derived.StillTailTactics
namespace Go.Proofs.Ytilepckgcgdjgaa
open Go.RowKit Go.Maps

theorem Try.infoPlace : (Try.prog.info? 70).map (fun i => (i.zero, i.size, i.bytes)) = some (some (.agg #[.int .i64 0, .int .i64 0, .int .i64 0, .int .i64 0, .int .i64 0, .slice none 0 0, .slice none 0 0]), 7, 88) := by kernel_rfl
theorem Try.infoStep : (Try.prog.info? 99).map (fun i => (i.zero, i.size, i.bytes)) = some (some (.agg #[.int .i64 0, .int .i64 0, .int .i64 0, .int .i64 0]), 4, 32) := by kernel_rfl

/-! ### Plans -/
def wayF (L : List Node) : Nat → Nat → List (Int × Int)
  | 0, _ => []
  | f + 1, k => if (L[k]?.getD dN).fr < 0 then [] else wayF L f (L[k]?.getD dN).fr.toNat ++ [(L[k]?.getD dN).mv]
/-- The plan to the one that is found as number k. -/
def wayN (L : List Node) (k : Nat) : List (Int × Int) := wayF L (k + 1) k
theorem wayF_fuel {S H : List Int} {L : List Node} (hf : Found S H L) (k : Nat) : ∀ f g, k < L.length → k < f → k < g → wayF L f k = wayF L g k := by
  induction k using Nat.strongRecOn with
  | _ k ih =>
    intro f g hk h1 h2
    obtain ⟨f, rfl⟩ : ∃ n, f = n + 1 := ⟨f - 1, by omega⟩
    obtain ⟨g, rfl⟩ : ∃ n, g = n + 1 := ⟨g - 1, by omega⟩
    unfold wayF
    by_cases h0 : k = 0
    · subst h0
      rw [hf.root]
      rfl
    · obtain ⟨i, e, hi, _, _⟩ := hf.back k (by omega) hk
      rw [e, if_neg (by omega), if_neg (by omega)]
      simp only [Int.toNat_natCast]
      rw [ih i hi f g (by omega) (by omega) (by omega)]
theorem wayF_prefix {S H : List Int} {L M : List Node} (hf : Found S H L) (hp : L <+: M) (k : Nat) : ∀ f, k < L.length → k < f → wayF M f k = wayF L f k := by
  induction k using Nat.strongRecOn with
  | _ k ih =>
    intro f hk h1
    obtain ⟨f, rfl⟩ : ∃ n, f = n + 1 := ⟨f - 1, by omega⟩
    unfold wayF
    rw [prefix_get hp hk]
    by_cases h0 : k = 0
    · subst h0
      rw [hf.root]
      rfl
    · obtain ⟨i, e, hi, _, _⟩ := hf.back k (by omega) hk
      rw [e, if_neg (by omega), if_neg (by omega)]
      simp only [Int.toNat_natCast]
      rw [ih i hi f (by omega) (by omega)]
theorem wayN_prefix {S H : List Int} {L M : List Node} (hf : Found S H L) (hp : L <+: M) {k : Nat} (hk : k < L.length) : wayN M k = wayN L k := wayF_prefix hf hp k _ hk (by omega)
theorem wayN_root {S H : List Int} {L : List Node} (hf : Found S H L) : wayN L 0 = [] := by
  unfold wayN wayF
  rw [hf.root]
  rfl
theorem wayN_next {S H : List Int} {L : List Node} {x : Node} {i : Nat} (hf : Found S H L) (hi : i < L.length) (e : x.fr = (i : Int)) : wayN (L ++ [x]) L.length = wayN L i ++ [x.mv] := by
  have hx : (L ++ [x])[L.length]?.getD dN = x := by simp
  unfold wayN
  rw [wayF, hx, e, if_neg (by omega)]
  simp only [Int.toNat_natCast]
  rw [wayF_prefix hf (List.prefix_append _ _) i _ hi (by omega), wayF_fuel hf i L.length (i + 1) hi hi (by omega)]
theorem wayN_len {S H : List Int} {L : List Node} (hf : Found S H L) (k : Nat) (hk : k < L.length) : (wayN L k).length = (L[k]?.getD dN).far := by
  induction k using Nat.strongRecOn with
  | _ k ih =>
    by_cases h0 : k = 0
    · subst h0
      rw [wayN_root hf, hf.root]
      rfl
    · obtain ⟨i, e, hi, e2, _⟩ := hf.back k (by omega) hk
      unfold wayN
      rw [wayF, e, if_neg (by omega)]
      simp only [Int.toNat_natCast]
      rw [wayF_fuel hf i k (i + 1) (by omega) hi (by omega), List.length_append, e2]
      have := ih i hi (by omega)
      unfold wayN at this
      rw [this]
      rfl
theorem wayN_small {S H : List Int} {L : List Node} (hf : Found S H L) {k : Nat} (hk : k < L.length) : (wayN L k).length ≤ k := by
  rw [wayN_len hf k hk]
  exact hf.far_le k hk

/-! ### Places, flat -/
def place7 (A : List Int) (p s : Value) : List Value := cells5 A ++ [p, s]
def flat7 (A : Nat → List Int) (P S : Nat → Value) : Nat → List Value
  | 0 => []
  | k + 1 => flat7 A P S k ++ place7 (A k) (P k) (S k)
theorem place7_length (A : List Int) (p s : Value) : (place7 A p s).length = 7 := rfl
theorem flat7_length (A : Nat → List Int) (P S : Nat → Value) (n : Nat) : (flat7 A P S n).length = n * 7 := by
  induction n with
  | zero => rfl
  | succ n ih => rw [flat7, List.length_append, ih, place7_length]; omega
theorem flat7_congr {A B : Nat → List Int} {P Q S T : Nat → Value} {n : Nat} (h : ∀ j, j < n → B j = A j ∧ Q j = P j ∧ T j = S j) : flat7 B Q T n = flat7 A P S n := by
  induction n with
  | zero => rfl
  | succ n ih => rw [flat7, flat7, ih fun j hj => h j (by omega), (h n (by omega)).1, (h n (by omega)).2.1, (h n (by omega)).2.2]
theorem flat7_get (A : Nat → List Int) (P S : Nat → Value) {n j : Nat} (hj : j < n) (i : Nat) (hi : i < 7) : (flat7 A P S n)[j * 7 + i]? = (place7 (A j) (P j) (S j))[i]? := by
  induction n with
  | zero => omega
  | succ n ih =>
    have hl := flat7_length A P S n
    by_cases h : j < n
    · rw [flat7, List.getElem?_append_left (by omega)]
      exact ih h
    · obtain rfl : j = n := by omega
      rw [flat7, List.getElem?_append_right (by omega), hl, show j * 7 + i - j * 7 = i by omega]
theorem flat7_set (A : Nat → List Int) (P S : Nat → Value) {n j : Nat} (hj : j < n) (u : Value) : (flat7 A P S n).set (j * 7 + 6) u = flat7 A P (fun k => if k = j then u else S k) n := by
  induction n with
  | zero => omega
  | succ n ih =>
    have hl := flat7_length A P S n
    by_cases h : j < n
    · rw [flat7, List.set_append_left _ _ (by omega), ih h, flat7, if_neg (show n ≠ j by omega)]
    · obtain rfl : j = n := by omega
      rw [flat7, List.set_append_right _ _ (by omega), hl, show j * 7 + 6 - j * 7 = 6 by omega, flat7, if_pos rfl,
        flat7_congr (A := A) (B := A) (P := P) (Q := P) (S := S) (T := fun k => if k = j then u else S k) (n := j) fun i hi => ⟨rfl, rfl, if_neg (by omega)⟩]
      rfl
def hA (L : List Node) : Nat → List Int := fun k => (L[k]?.getD dN).h
def nilS : Value := .slice none 0 0
theorem flat7_more (L : List Node) (x : Node) (P St : Nat → Value) (p s : Value) : flat7 (hA L) P St L.length ++ place7 x.h p s = flat7 (hA (L ++ [x])) (upto P L.length p) (upto St L.length s) (L ++ [x]).length := by
  have e : (L ++ [x]).length = L.length + 1 := by simp
  rw [e, flat7, flat7_congr (A := hA L) (B := hA (L ++ [x])) (P := P) (Q := upto P L.length p) (S := St) (T := upto St L.length s) (n := L.length) fun j hj => ⟨by unfold hA; rw [List.getElem?_append_left hj], by unfold upto; rw [if_neg (by omega)], by unfold upto; rw [if_neg (by omega)]⟩]
  have a : hA (L ++ [x]) L.length = x.h := by unfold hA; simp
  have b : upto P L.length p L.length = p ∧ upto St L.length s L.length = s := by unfold upto; rw [if_pos rfl, if_pos rfl]; exact ⟨rfl, rfl⟩
  rw [a, b.1, b.2]

/-! ### Numbers by what is held -/
def KeyH (kf : List Int → Lit) : Prop := ∀ A, (∀ k, k < 5 → 0 ≤ A[k]?.getD 0 ∧ A[k]?.getD 0 ≤ 1000) → keyOf Try.prog 67 (holdV A) = some (kf A)
theorem keyH_ex : ∃ kf, KeyH kf := ⟨fun A => (keyOf Try.prog 67 (holdV A)).getD (.bool false), fun A h => by
  obtain ⟨l, hl⟩ := keyOf_hold A h
  simp [hl]⟩
theorem good_five {S K : List Int} (hg : Good S K) : ∀ k, k < 5 → 0 ≤ K[k]?.getD 0 ∧ K[k]?.getD 0 ≤ 1000 := fun k _ => by
  by_cases h : k < S.length
  · have := hg.at h; omega
  · have := hg.2.1
    rw [List.getElem?_eq_none (by omega)]
    simp
theorem kfH_inj {kf : List Int → Lit} (K : KeyH kf) {S A B : List Int} (gA : Good S A) (gB : Good S B) (h : kf A = kf B) : A = B := by
  have h1 := K A (good_five gA)
  have h2 := K B (good_five gB)
  rw [← h] at h2
  have h3 := holdLaw.inj h1 h2
  have h4 := eq5_iff.2 h3
  rw [eq5_list (by rw [gA.2.1, gB.2.1]) (by have := gA.1; have := gA.2.1; omega)] at h4
  exact of_decide_eq_true h4
structure Nums (kf : List Int → Lit) (D : DataW Unit) (L : List Node) : Prop where
  has_ : ∀ kl, has D kl = true ↔ ∃ i, i < L.length ∧ kf (L[i]?.getD dN).h = kl
  at_ : ∀ i z, i < L.length → D.atKey (kf (L[i]?.getD dN).h) z = .lit (.int .i64 (i : Int))
theorem Nums.nil (kf : List Int → Lit) : Nums kf (.map []) [] := ⟨fun kl => by simp [has], fun i z hi => by simp at hi⟩
theorem Nums.put {kf : List Int → Lit} {D : DataW Unit} {L : List Node} {x : Node} (h : Nums kf D L) (ht : Tidy D) (hk : WideAt.IsKeyLit (kf x.h)) (hne : ∀ i, i < L.length → kf (L[i]?.getD dN).h ≠ kf x.h) :
    Nums kf (D.put (kf x.h) (.lit (.int .i64 (L.length : Int)))) (L ++ [x]) := by
  have old : ∀ i, i < L.length → (L ++ [x])[i]?.getD dN = L[i]?.getD dN := fun i hi => by rw [List.getElem?_append_left hi]
  have new : (L ++ [x])[L.length]?.getD dN = x := by simp
  have hl : (L ++ [x]).length = L.length + 1 := by simp
  refine ⟨fun kl => ?_, fun i z hi => ?_⟩
  · by_cases e : kl = kf x.h
    · subst e
      rw [has_put_same ht.isMap hk]
      exact ⟨fun _ => ⟨L.length, by omega, by rw [new]⟩, fun _ => rfl⟩
    · rw [has_put_other e, h.has_]
      constructor
      · rintro ⟨i, a, c⟩; exact ⟨i, by omega, by rw [old i a]; exact c⟩
      · rintro ⟨i, a, c⟩
        by_cases q : i = L.length
        · subst q
          rw [new] at c
          exact absurd c.symm e
        · rw [old i (by omega)] at c
          exact ⟨i, by omega, c⟩
  · by_cases e : i = L.length
    · subst e
      rw [new]
      exact atKey_put_same ht.isMap hk _ _
    · rw [old i (by omega), atKey_put_other (hne i (by omega))]
      exact h.at_ i z (by omega)
theorem Nums.has_eq {kf : List Int → Lit} {D : DataW Unit} {L : List Node} {S H0 A : List Int} (h : Nums kf D L) (K : KeyH kf) (hf : Found S H0 L) (gA : Good S A) : has D (kf A) = nHas L A := by
  rw [Bool.eq_iff_iff, h.has_, nHas_iff]
  constructor
  · rintro ⟨i, hi, e⟩
    exact ⟨i, hi, kfH_inj K (hf.good i hi) gA e⟩
  · rintro ⟨i, hi, e⟩
    exact ⟨i, hi, by rw [e]⟩

/-! ### The search in memory -/
def intsL (l : List Int) : List Value := l.map fun x => .int .i64 x
def q1 (v : Value) (L : List Node) (P St : Nat → Value) : BRow := ⟨1, 70, 7, v, L.length, flat7 (hA L) P St L.length⟩
def q2 (v : Value) (lay : List Int) : BRow := ⟨2, 3, 1, v, lay.length, intsL lay⟩
/-- A block as a value that holds it. -/
def blkV (b : Nat) : Value := .slice (some ⟨b, 0, none⟩) 0 0
theorem blkV_own (b : Nat) : (blkV b).ownBlock = some b := rfl
structure Srch (kf : List Int → Lit) (w0 w : World) (B base mb : Nat) (sv : Value) (L : List Node) (vp vl : Value) (lay : List Int) (P St : Nat → Value) : Prop where
  new : New w0 w
  lo : w0.heap.size ≤ B ∧ w0.heap.size ≤ base ∧ w0.heap.size ≤ mb
  c0 : w.cell? ⟨B, 0, none⟩ = some sv
  c3 : w.cell? ⟨B, 3, none⟩ = some (.map (some mb))
  box : BRows B base w [q1 vp L P St, q2 vl lay]
  map : ∃ D : DataW Unit, w.ownsMap Try.prog 67 (plainElem Try.prog 3) mb L.length D ∧ Nums kf D L
  far : Far B [vp, vl] mb
  blo : base ≤ w.heap.size
theorem ownsMap_blk {w w' : World} {P : Program} {k : TypeId} {R : Value → Option (DataW Unit × List MemPlace)} {b n : Nat} {D : DataW Unit} (h : w.ownsMap P k R b n D) (e : w'.heap[b]? = w.heap[b]?) : w'.ownsMap P k R b n D := by
  obtain ⟨es, clock, hb, r⟩ := h
  exact ⟨es, clock, e.trans hb, r⟩
theorem ownsMap_low {w : World} {P : Program} {k : TypeId} {R : Value → Option (DataW Unit × List MemPlace)} {b n : Nat} {D : DataW Unit} (h : w.ownsMap P k R b n D) : b < w.heap.size := by
  obtain ⟨es, clock, hb, _⟩ := h
  exact (Array.getElem?_eq_some_iff.1 hb).1
theorem Srch.newer {kf : List Int → Lit} {w0 w w' : World} {B base mb : Nat} {sv : Value} {L : List Node} {vp vl : Value} {lay : List Int} {P St : Nat → Value} (h : Srch kf w0 w B base mb sv L vp vl lay P St) (k : New w w') : Srch kf w0 w' B base mb sv L vp vl lay P St := by
  obtain ⟨D, h1, h2⟩ := h.map
  exact ⟨h.new.trans k, h.lo, k.cell h.c0, k.cell h.c3, h.box.new k, ⟨D, ownsMap_blk h1 (k.block _ (ownsMap_low h1)), h2⟩, h.far, by have := k.size; have := h.blo; omega⟩
/-- A plan in a row of its own, apart from all that turns. -/
def PlanAt (w : World) (B base : Nat) (vs : List Value) (ps : List (Int × Int)) (v : Value) : Prop :=
  w.ownsRow base 77 2 v ps.length (flat ps) ∧ ∀ b, v.ownBlock = some b → Far B vs b
theorem PlanAt.keep {w w' : World} {B base : Nat} {vs vs' : List Value} {ps : List (Int × Int)} {v : Value} (h : PlanAt w B base vs ps v) (k : Keeps w w' B vs vs') : PlanAt w' B base vs' ps v :=
  ⟨ownsRow_block h.1 fun g e => (k.2 g (h.1.lt g e).2 (h.2 g e)).1, fun b e => (k.2 b (h.1.lt b e).2 (h.2 b e)).2⟩
theorem PlanAt.nil (w : World) (B base : Nat) (vs : List Value) : PlanAt w B base vs [] nilS := ⟨World.ownsRow_nil _ _ _ _, fun b e => by cases e⟩
theorem own_one {w : World} {base : Nat} {e : TypeId} {size n : Nat} {v : Value} {xs : List Value} (h : w.ownsRow base e size v n xs) : v.oneCell' = true := by
  obtain ⟨_, h⟩ := h
  rcases h with ⟨rfl, rfl⟩ | ⟨g, cap, cur, rfl, _⟩ <;> rfl
end Go.Proofs.Ytilepckgcgdjgaa
