/- The levels of a chain with a steady inflow, as lists of four. -/
import Derived.Test.YtafiihhiipfejaaOrbit
import Derived.Test.YtafiihhiipfejaaChain
namespace Go.Proofs.Ytafiihhiipfejaa
open Go.RowKit

def lvAt (L : List (Int × Bool)) (i : Nat) : Int × Bool := L[i]?.getD (0, false)
/-- The levels behind the first i siphons of a tick, and what comes into the next one. -/
def chGo (l : List (Int × Int × Int × Int)) (L : List (Int × Bool)) (x : Int) : Nat → List (Int × Bool) × Int
  | 0 => (L, x)
  | i + 1 =>
    ((chGo l L x i).1.set i (tkH (sipAt l i).1 (sipAt l i).2.1 (sipAt l i).2.2.1 (sipAt l i).2.2.2 (lvAt (chGo l L x i).1 i).1 (chGo l L x i).2 (lvAt (chGo l L x i).1 i).2,
      tkR (sipAt l i).1 (sipAt l i).2.1 (sipAt l i).2.2.1 (sipAt l i).2.2.2 (lvAt (chGo l L x i).1 i).1 (chGo l L x i).2 (lvAt (chGo l L x i).1 i).2),
     tkO (sipAt l i).1 (sipAt l i).2.1 (sipAt l i).2.2.1 (sipAt l i).2.2.2 (lvAt (chGo l L x i).1 i).1 (chGo l L x i).2 (lvAt (chGo l L x i).1 i).2)
theorem chGo_length (l : List (Int × Int × Int × Int)) (L : List (Int × Bool)) (x : Int) (i : Nat) : (chGo l L x i).1.length = L.length := by
  induction i with
  | zero => rfl
  | succ i ih => simp [chGo, ih]
/-- Four levels; those of the chain's siphons are levels of them, the others are empty. -/
def FourOk (l : List (Int × Int × Int × Int)) (L : List (Int × Bool)) : Prop := L.length = 4 ∧ (∀ i, i < l.length → 0 ≤ (lvAt L i).1 ∧ (lvAt L i).1 ≤ (sipAt l i).1) ∧ ∀ i, 0 ≤ (lvAt L i).1 ∧ (lvAt L i).1 ≤ 60
theorem lvAt_set {L : List (Int × Bool)} {i j : Nat} {p : Int × Bool} (hi : i < L.length) : lvAt (L.set i p) j = if i = j then p else lvAt L j := by
  unfold lvAt
  rw [List.getElem?_set]
  by_cases e : i = j
  · subst e; simp [hi]
  · simp [e]
theorem chGo_ok {l : List (Int × Int × Int × Int)} {L : List (Int × Bool)} {x : Int} (hc : ChainOk l) (hL : FourOk l L) (x0 : 0 ≤ x) (x1 : x ≤ 60) (i : Nat) (hi : i ≤ l.length) : FourOk l (chGo l L x i).1 ∧ 0 ≤ (chGo l L x i).2 ∧ (chGo l L x i).2 ≤ 60 := by
  induction i with
  | zero => exact ⟨hL, x0, x1⟩
  | succ i ih =>
    obtain ⟨⟨h1, h2, h3⟩, y0, y1⟩ := ih (by omega)
    have hs := sipB_iff.1 (hc.2 i (by omega))
    have hb := h2 i (by omega)
    have q := tkO_bd (sipAt l i).1 (sipAt l i).2.1 (sipAt l i).2.2.1 (sipAt l i).2.2.2 (lvAt (chGo l L x i).1 i).1 (chGo l L x i).2 (lvAt (chGo l L x i).1 i).2 hs hb.1 y0
    have q2 := tkH_bd (sipAt l i).1 (sipAt l i).2.1 (sipAt l i).2.2.1 (sipAt l i).2.2.2 (lvAt (chGo l L x i).1 i).1 (chGo l L x i).2 (lvAt (chGo l L x i).1 i).2 hs hb.1 y0
    have l4 := hc.1.2
    have ha : (sipAt l i).1 ≤ 60 := hs.1.2
    refine ⟨⟨by rw [chGo_length]; exact hL.1, fun j hj => ?_, fun j => ?_⟩, q.1, q.2.1⟩
    · show 0 ≤ (lvAt ((chGo l L x i).1.set i _) j).1 ∧ (lvAt ((chGo l L x i).1.set i _) j).1 ≤ _
      rw [lvAt_set (by omega)]
      by_cases e : i = j
      · subst e; rw [if_pos rfl]; exact q2
      · rw [if_neg e]; exact h2 j hj
    · show 0 ≤ (lvAt ((chGo l L x i).1.set i _) j).1 ∧ (lvAt ((chGo l L x i).1.set i _) j).1 ≤ _
      rw [lvAt_set (by omega)]
      by_cases e : i = j
      · subst e; rw [if_pos rfl]; exact ⟨q2.1, by have := q2.2; omega⟩
      · rw [if_neg e]; exact h3 j
def chTick (l : List (Int × Int × Int × Int)) (L : List (Int × Bool)) (x : Int) : List (Int × Bool) := (chGo l L x l.length).1
def zero4 : List (Int × Bool) := [(0, false), (0, false), (0, false), (0, false)]
def chSt (l : List (Int × Int × Int × Int)) (x : Int) : Nat → List (Int × Bool)
  | 0 => zero4
  | k + 1 => chTick l (chSt l x k) x
theorem zero4_ok {l : List (Int × Int × Int × Int)} (hc : ChainOk l) : FourOk l zero4 := by
  have hz : ∀ i, lvAt zero4 i = (0, false) := fun i => by
    match i with
    | 0 => rfl
    | 1 => rfl
    | 2 => rfl
    | 3 => rfl
    | i + 4 => rfl
  refine ⟨rfl, fun i hi => ?_, fun i => by rw [hz]; exact ⟨Int.le_refl _, by decide⟩⟩
  rw [hz]
  have hs := (sipB_iff.1 (hc.2 i hi)).1
  exact ⟨Int.le_refl _, by show (0 : Int) ≤ _; omega⟩
theorem chSt_ok {l : List (Int × Int × Int × Int)} {x : Int} (hc : ChainOk l) (x0 : 0 ≤ x) (x1 : x ≤ 60) (k : Nat) : FourOk l (chSt l x k) := by
  induction k with
  | zero => exact zero4_ok hc
  | succ k ih => exact (chGo_ok hc ih x0 x1 l.length (Nat.le_refl _)).1

/-- A chain of one siphon goes as the siphon. -/
theorem chSt_one (a b c d x : Int) (k : Nat) : chSt [(a, b, c, d)] x k = [cst a b c d x k, (0, false), (0, false), (0, false)] := by
  induction k with
  | zero => rfl
  | succ k ih =>
    show chTick _ _ _ = _
    rw [ih]
    rfl
theorem meets_one {a b c d x : Int} {n k : Nat} : Meets (chSt [(a, b, c, d)] x) n k ↔ Meets (cst a b c d x) n k := by
  have inj : ∀ i j, chSt [(a, b, c, d)] x i = chSt [(a, b, c, d)] x j ↔ cst a b c d x i = cst a b c d x j := fun i j => by
    rw [chSt_one, chSt_one]
    constructor
    · intro h; injection h
    · intro h; rw [h]
  unfold Meets
  constructor
  · rintro ⟨h1, h2, h3⟩
    exact ⟨fun i j hi hj e => h1 i j hi hj ((inj i j).2 e), h2, (inj k n).1 h3⟩
  · rintro ⟨h1, h2, h3⟩
    exact ⟨fun i j hi hj e => h1 i j hi hj ((inj i j).1 e), h2, (inj k n).2 h3⟩
theorem chain_one {a b c d : Int} (hs : SipOk a b c d) : ChainOk [(a, b, c, d)] := ⟨⟨by simp, by simp⟩, fun j hj => by
  have : j = 0 := by simpa using hj
  subst this
  exact sipB_iff.2 hs⟩
end Go.Proofs.Ytafiihhiipfejaa
