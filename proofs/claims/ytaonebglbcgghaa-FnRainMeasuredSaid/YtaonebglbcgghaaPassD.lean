/- passDrops: buckets hand on what comes out of them; each that tips is told of by a call of a function that came in. -/
import Derived.Test.YtaonebglbcgghaaBuckI
import Derived.Test.YtaonebglbcgghaaCopyTo
import Derived.Deep.DeepCutAuto
import Derived.Shelf.Abstract
namespace Go.Proofs.Ytaonebglbcgghaa
open Go.RowKit

theorem Own.cells {w : World} {lo hi b n cap : Nat} {l : List Int} (h : Own w lo hi (some ⟨b, 0, none⟩) n cap l) {j : Nat} (hj : j < n) : w.cell? ⟨b, j, none⟩ = some (.int .i64 (l[j]?.getD 0)) ∧ w.frozen? ⟨b, j, none⟩ = false := by
  obtain ⟨b', e, _, _, _, r⟩ := h.row hj
  cases e
  exact r j hj
theorem Ints.chg {P : Nat → Prop} {w w' : World} {ao : Option Addr} {n cap : Nat} {l : List Int} (h : Ints w ao n cap l) (k : Chg P w w') (hP : ∀ b, blkOf ao = some b → ¬ P b) : Ints w' ao n cap l := by
  obtain ⟨h1, h2, h3, h4, h5⟩ := h
  refine ⟨h1, h2, h3, fun j hj => ?_, h5⟩
  obtain ⟨b, o, e, hc⟩ := h4 j hj
  exact ⟨b, o, e, k.cell hc (hP b (by rw [e]; rfl))⟩
theorem Chg.drew {P : Nat → Prop} {a b : World} (h : Chg P a b) : Chg P a b.drew := h.trans (Chg.of_new (New.refl _).drew)

/-- Where passDrops stands ahead of the bucket k: what the row behind holds, what was told, what has turned. -/
structure Drop (P : Nat → Prop) (Inv : Nat → World → Prop) (w : World) (c h : List Int) (x : Int) (g m k : Nat) (l : List Int) (W : World) : Prop where
  own : Own W g (g + 1) (some ⟨g, 0, none⟩) m m l
  chg : Chg (fun b => P b) w W
  inv : Inv k W
  lt : g < W.heap.size
  pre : ∀ i, i < k → (carK c h x (i + 1) != 0) = true
  lo : ∀ j, j < k → l[j]?.getD 0 = rstK c h x j
  hi : ∀ j, k ≤ j → l[j]?.getD 0 = h[j]?.getD 0

theorem Drop.put {P : Nat → Prop} {Inv : Nat → World → Prop} {w : World} {c h : List Int} {x : Int} {g m k : Nat} {l : List Int} {W : World} (d : Drop P Inv w c h x g m k l W) (hk : k < m) (hg : w.heap.size ≤ g)
    (hkeep : ∀ k v v', Inv k v → Below w.heap.size v v' → Inv k v') {z : Int} :
    Own (W.setCell ⟨g, k, none⟩ (.int .i64 z)) g (g + 1) (some ⟨g, 0, none⟩) m m (l.set k z) ∧ Chg (fun b => P b) w (W.setCell ⟨g, k, none⟩ (.int .i64 z)) ∧ Inv k (W.setCell ⟨g, k, none⟩ (.int .i64 z)) ∧ g < (W.setCell ⟨g, k, none⟩ (.int .i64 z)).heap.size := by
  refine ⟨d.own.store hk z, ⟨d.chg.os, d.chg.tape, d.chg.output, by have := d.chg.size; simpa [World.setCell] using this, fun i hi hp => ?_⟩, hkeep k _ _ d.inv ?_, by have := d.lt; simpa [World.setCell] using this⟩
  · rw [Below.heap_setCell _ _ _ _ (by simp; omega)]
    exact d.chg.block i hi hp
  · exact (Below.refl _ _).setCell (by simpa using hg) _
theorem Drop.full {P : Nat → Prop} {Inv : Nat → World → Prop} {w : World} {c h : List Int} {x : Int} {g m k : Nat} {l : List Int} {W : World} (d : Drop P Inv w c h x g m k l W) (hc : CapsOk c) (hh : HeldOk c h) (hm : m = c.length)
    (h0 : carK c h x (k + 1) = 0) : l.set k (rstK c h x k) = rstTo c h x c.length := by
  have hl : l.length = m := d.own.1.symm
  refine ext_getD (by rw [List.length_set, rstTo_length]; omega) fun j hj => ?_
  rw [List.length_set] at hj
  rw [rstTo_get _ _ _ (by omega), List.getElem?_set]
  by_cases e : k = j
  · subst e
    rw [if_pos rfl, if_pos (by omega)]; rfl
  · rw [if_neg e]
    by_cases hlt : j < k
    · exact d.lo j hlt
    · rw [d.hi j (by omega), rstK_none hc hh h0 (by omega) (by omega)]
theorem Drop.last {P : Nat → Prop} {Inv : Nat → World → Prop} {w : World} {c h : List Int} {x : Int} {g m k : Nat} {l : List Int} {W : World} (d : Drop P Inv w c h x g m k l W) (hm : m = c.length) (hk : k + 1 = m) :
    l.set k (rstK c h x k) = rstTo c h x c.length := by
  have hl : l.length = m := d.own.1.symm
  refine ext_getD (by rw [List.length_set, rstTo_length]; omega) fun j hj => ?_
  rw [List.length_set] at hj
  rw [rstTo_get _ _ _ (by omega), List.getElem?_set]
  by_cases e : k = j
  · subst e
    rw [if_pos rfl, if_pos (by omega)]; rfl
  · rw [if_neg e]
    exact d.lo j (by omega)
theorem Drop.next {P : Nat → Prop} {Inv : Nat → World → Prop} {w : World} {c h : List Int} {x : Int} {g m k : Nat} {l : List Int} {W W' : World} (d : Drop P Inv w c h x g m k l W) (hk : k < m)
    (ho : Own W' g (g + 1) (some ⟨g, 0, none⟩) m m (l.set k (rstK c h x k))) (hc : Chg (fun b => P b) w W') (hi : Inv (k + 1) W') (hs : g < W'.heap.size) (hz : carK c h x (k + 1) ≠ 0) : Drop P Inv w c h x g m (k + 1) (l.set k (rstK c h x k)) W' where
  own := ho
  chg := hc
  inv := hi
  lt := hs
  pre := fun i hi => by
    by_cases e : i = k
    · subst e; simpa using hz
    · exact d.pre i (by omega)
  lo := fun j hj => by
    have hl : l.length = m := d.own.1.symm
    rw [List.getElem?_set]
    by_cases e : k = j
    · subst e
      rw [if_pos rfl, if_pos (by omega)]; rfl
    · rw [if_neg e]
      exact d.lo j (by omega)
  hi := fun j hj => by
    rw [List.getElem?_set, if_neg (by omega)]
    exact d.hi j (by omega)

theorem Own.ended {W : World} {lo g m : Nat} {l : List Int} (h : Own W g (g + 1) (some ⟨g, 0, none⟩) m m l) (hl : lo ≤ g) (hs : g < W.heap.size) : Own W lo W.heap.size (some ⟨g, 0, none⟩) m m l := h.mono hl hs

/-- What the call of the function that came in must do. -/
def Tells (P : Nat → Prop) (Inv : Nat → World → Prop) (c h : List Int) (x : Int) (fk : Nat) (cp : Array Value) : Prop :=
  ∀ (k : Nat) (v : World), k < c.length → Inv k v → Calls Try.prog fk (#[.int .i64 (k : Int), .int .i64 (carK c h x (k + 1))] ++ cp) v fun e v' => e = .returned (.tuple #[]) ∧ Inv (k + 1) v' ∧ Chg (fun b => P b) v v'
end Go.Proofs.Ytaonebglbcgghaa
