/- A slice of slices that grows by append, its rows the call's own. -/
import Derived.Test.YtchnnbkaiagpgaaIntSS
import Derived.Test.YtchnnbkaiagpgaaRows2b
namespace Go.Proofs.Ytchnnbkaiagpgaa
open Go.RowKit

abbrev headV (h : Option Addr × Nat × Nat) : Value := .slice h.1 h.2.1 h.2.2
structure GrowSS (base : Nat) (w : World) (v : Value) (k : Nat) (hd : Nat → Option Addr × Nat × Nat) (L : List (List Int)) : Prop where
  len : k = L.length
  row : w.ownsRow base 25 1 v k ((List.range k).map fun j => headV (hd j))
  own : ∀ j, j < k → Own w base w.heap.size (hd j).1 (hd j).2.1 (hd j).2.2 (L[j]?.getD [])
  outer : ∀ j, j < k → (hd j).2.1 ≠ 0 → blkOf (hd j).1 ≠ v.ownBlock
  apart : ∀ i j, i < k → j < k → i ≠ j → (hd i).2.1 ≠ 0 → (hd j).2.1 ≠ 0 → blkOf (hd i).1 ≠ blkOf (hd j).1
theorem GrowSS.nil (base : Nat) (w : World) (hd : Nat → Option Addr × Nat × Nat) : GrowSS base w (.slice none 0 0) 0 hd [] :=
  ⟨rfl, World.ownsRow_nil _ _ _ _, fun j hj => absurd hj (by omega), fun j hj => absurd hj (by omega), fun i j hi => absurd hi (by omega)⟩
theorem GrowSS.new {base k : Nat} {w w' : World} {v : Value} {hd : Nat → Option Addr × Nat × Nat} {L : List (List Int)} (h : GrowSS base w v k hd L) (n : New w w') : GrowSS base w' v k hd L :=
  { h with row := ownsRow_new h.row n, own := fun j hj => ((h.own j hj).new n).mono (Nat.le_refl _) n.size }

/-- One slice more: made between w and w1, laid into a cell of its own, appended. -/
theorem GrowSS.snoc {base k n c cap g : Nat} {w w1 w2 w3 : World} {v : Value} {hd : Nat → Option Addr × Nat × Nat} {L : List (List Int)} {a : Option Addr} {l : List Int} (h : GrowSS base w v k hd L) (hb0 : base ≤ w.heap.size)
    (n1 : New w w1) (o1 : Own w1 w.heap.size w1.heap.size a n c l) (n2 : New w1 w2)
    (ho : w3.ownsRow base 25 1 (.slice (some ⟨g, 0, none⟩) (k + 1) cap) (k + 1) (((List.range k).map fun j => headV (hd j)) ++ [.slice a n c])) (hg : w2.grownBy w3 v.ownBlock) (hb : v.ownBlock = some g ∨ g = w2.heap.size) :
    GrowSS base w3 (.slice (some ⟨g, 0, none⟩) (k + 1) cap) (k + 1) (fun j => if j = k then (a, n, c) else hd j) (L ++ [l]) := by
  have hlen := h.len
  have z1 := n1.size
  have z2 := n2.size
  have z3 := hg.size
  have vlt : ∀ q, v.ownBlock = some q → q < w.heap.size := fun q e => (h.row.lt q e).2
  have neq : ∀ j, j < k → (if j = k then (a, n, c) else hd j) = hd j := fun j hj => by rw [if_neg (by omega)]
  have oldOwn : ∀ j, j < k → Own w3 base w3.heap.size (hd j).1 (hd j).2.1 (hd j).2.2 (L[j]?.getD []) := fun j hj => by
    have q := (h.own j hj).new (n1.trans n2)
    refine (q.turned fun b hn hbk hlt => hg.block b hlt fun e => ?_).mono (Nat.le_refl _) (by omega)
    exact h.outer j hj hn (hbk.trans e)
  have newOwn : Own w3 base w3.heap.size a n c l := by
    refine ((o1.new n2).turned fun b hn hbk hlt => hg.block b hlt fun e => ?_).mono hb0 (by omega)
    have := (o1.bounds hn hbk).1
    have := vlt b e.symm
    omega
  have gne : ∀ b, b < w2.heap.size → v.ownBlock ≠ some b → g ≠ b := fun b h1 h2 e => by
    subst e
    rcases hb with hb | hb
    · exact h2 hb
    · omega
  refine ⟨by simp [hlen], ?_, fun j hj => ?_, fun j hj hn e => ?_, fun i j hi hj hne hni hnj e => ?_⟩
  · have e : ((List.range (k + 1)).map fun j => headV (if j = k then (a, n, c) else hd j)) = ((List.range k).map fun j => headV (hd j)) ++ [.slice a n c] := by
      rw [List.range_succ, List.map_append]
      congr 1
      · refine List.map_congr_left fun j hj => ?_
        rw [neq j (List.mem_range.1 hj)]
      · simp
    rw [e]; exact ho
  · by_cases e : j = k
    · subst e
      rw [if_pos rfl, List.getElem?_append_right (by omega), show j - L.length = 0 by omega]
      exact newOwn
    · rw [if_neg e, List.getElem?_append_left (by omega)]
      exact oldOwn j (by omega)
  · simp only [Value.ownBlock] at e
    by_cases ej : j = k
    · subst ej
      rw [if_pos rfl] at e hn
      have q := o1.bounds hn e
      exact gne g (by omega) (fun e' => by have := vlt g e'; omega) rfl
    · rw [if_neg ej] at e hn
      have q := (h.own j (by omega)).bounds hn e
      exact gne g (by omega) (fun e' => h.outer j (by omega) hn (e.trans e'.symm)) rfl
  · have cross : ∀ j, j < k → (hd j).2.1 ≠ 0 → n ≠ 0 → blkOf (hd j).1 = blkOf a → False := fun j hj h1 h2 e' => by
      cases hbk : blkOf a with
      | none => exact o1.has h2 hbk
      | some q =>
        have q1 := o1.bounds h2 hbk
        have q2 := (h.own j hj).bounds h1 (e'.trans hbk)
        omega
    by_cases ei : i = k
    · by_cases ej : j = k
      · omega
      · rw [if_pos ei] at e hni
        rw [if_neg ej] at e hnj
        exact cross j (by omega) hnj hni e.symm
    · by_cases ej : j = k
      · rw [if_neg ei] at e hni
        rw [if_pos ej] at e hnj
        exact cross i (by omega) hni hnj e
      · rw [if_neg ei] at e hni
        rw [if_neg ej] at e hnj
        exact h.apart i j (by omega) (by omega) hne hni hnj e
theorem GrowSS.done {base k : Nat} {w : World} {v : Value} {hd : Nat → Option Addr × Nat × Nat} {L : List (List Int)} (h : GrowSS base w v k hd L) : ∃ ao cap, v = .slice ao k cap ∧ OwnSS w base w.heap.size ao k cap L := by
  have hlen := h.len
  obtain ⟨hl, hr⟩ := h.row
  rcases hr with ⟨e1, e2⟩ | ⟨g, cap, cur, e1, hb, hh, hn, hm, hs, ht⟩
  · subst e1 e2
    exact ⟨none, 0, rfl, hlen, Nat.le_refl _, by omega, .inl ⟨rfl, fun _ => rfl⟩⟩
  · subst e1
    refine ⟨_, cap, rfl, hlen, hn, by unfold maxLen at hm; omega, .inr ⟨g, fun j => cur[j]?.getD undef, hd, rfl, ?_⟩⟩
    have hgs : g < w.heap.size := (Array.getElem?_eq_some_iff.1 hh).1
    refine ⟨hb, hgs, ⟨cur, hh, by omega, fun i hi => ?_⟩, fun j hj => ?_, h.own, fun j hj hn' e => h.outer j hj hn' e, h.apart⟩
    · simp [Array.getElem?_eq_getElem (show i < cur.size by omega)]
    · have e : (cur.toList.take (k * 1))[j]? = ((List.range k).map fun j => headV (hd j))[j]? := by rw [ht]
      rw [List.getElem?_take, if_pos (by omega)] at e
      have e' : cur[j]? = some (headV (hd j)) := by simpa [hj] using e
      simp [e']
end Go.Proofs.Ytchnnbkaiagpgaa
