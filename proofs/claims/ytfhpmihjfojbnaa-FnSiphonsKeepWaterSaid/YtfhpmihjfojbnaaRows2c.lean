/- Two rows that grow side by side, their slices in a box, a number beside them, and a box of two cells below. Nothing here speaks of the program. -/
import Derived.Test.YtfhpmihjfojbnaaRows2b
namespace Go.Proofs.Ytfhpmihjfojbnaa
open Go.RowKit

structure RunC (v0 wr : World) (L base B : Nat) (e1 e2 : TypeId) (x y p0 p1 s : Value) (vl : Value) (m : Nat) (ll : List Value) (vo : Value) (n : Nat) (lo : List Value) : Prop where
  new : Below L v0 wr
  keep : ∀ b, b < base → b ≠ L → wr.heap[b]? = v0.heap[b]?
  ltL : L < base
  ltB : base ≤ B
  l0 : wr.cell? ⟨L, 0, none⟩ = some x
  l1 : wr.cell? ⟨L, 1, none⟩ = some y
  g0 : wr.frozen? ⟨L, 0, none⟩ = false
  g1 : wr.frozen? ⟨L, 1, none⟩ = false
  c0 : wr.cell? ⟨B, 0, none⟩ = some p0
  c1 : wr.cell? ⟨B, 1, none⟩ = some p1
  c2 : wr.cell? ⟨B, 2, none⟩ = some s
  f0 : wr.frozen? ⟨B, 0, none⟩ = false
  f1 : wr.frozen? ⟨B, 1, none⟩ = false
  f2 : wr.frozen? ⟨B, 2, none⟩ = false
  levs : wr.ownsRow base e2 2 vl m ll
  outs : wr.ownsRow base e1 1 vo n lo
  nl : vl.ownBlock ≠ some B
  no : vo.ownBlock ≠ some B
  apart : ∀ g, vl.ownBlock = some g → vo.ownBlock ≠ some g
section
variable {v0 wr w' : World} {L base B m n m' n' cap g : Nat} {e1 e2 : TypeId} {x y p0 p1 s vl vo : Value} {ll lo ll' lo' : List Value}
theorem RunC.bsize (h : RunC v0 wr L base B e1 e2 x y p0 p1 s vl m ll vo n lo) : B < wr.heap.size := World.block_lt_of_cell? _ _ h.c0
theorem RunC.old (h : RunC v0 wr L base B e1 e2 x y p0 p1 s vl m ll vo n lo) {p : Addr} {v : Value} (hc : v0.cell? p = some v) (hp : p.block < base) (hL : p.block ≠ L) : wr.cell? p = some v :=
  (World.cell?_of_block (h.keep _ hp hL)).trans hc
theorem RunC.warm (h : RunC v0 wr L base B e1 e2 x y p0 p1 s vl m ll vo n lo) {p : Addr} (hf : v0.frozen? p = false) (hp : p.block < base) (hL : p.block ≠ L) : wr.frozen? p = false := by
  have e := h.keep _ hp hL
  unfold World.frozen? at hf ⊢
  rw [e]; exact hf
theorem RunC.since {w : World} (h : RunC v0 wr L base B e1 e2 x y p0 p1 s vl m ll vo n lo) (k : New w v0) (hL : w.heap.size ≤ L) : New w wr := Below.trans k (Below.mono h.new hL)
theorem RunC.kept (h : RunC v0 wr L base B e1 e2 x y p0 p1 s vl m ll vo n lo) (k : New wr w') : RunC v0 w' L base B e1 e2 x y p0 p1 s vl m ll vo n lo :=
  have hb := h.bsize
  { h with
    new := h.new.trans (Below.mono k (by have := h.ltL; have := h.ltB; omega))
    keep := fun b hb' hL => (k.block b (by have := h.ltB; omega)).trans (h.keep b hb' hL)
    l0 := k.cell h.l0, l1 := k.cell h.l1, g0 := k.frz h.l0 h.g0, g1 := k.frz h.l1 h.g1
    c0 := k.cell h.c0, c1 := k.cell h.c1, c2 := k.cell h.c2, f0 := k.frz h.c0 h.f0, f1 := k.frz h.c1 h.f1, f2 := k.frz h.c2 h.f2
    levs := ownsRow_new h.levs k, outs := ownsRow_new h.outs k }
theorem RunC.put (h : RunC v0 wr L base B e1 e2 x y p0 p1 s vl m ll vo n lo) (x' y' : Value) :
    RunC v0 ((wr.setCell ⟨L, 0, none⟩ x').setCell ⟨L, 1, none⟩ y') L base B e1 e2 x' y' p0 p1 s vl m ll vo n lo :=
  have hL := h.ltL
  have hB := h.ltB
  have hk : ∀ b, b ≠ L → ((wr.setCell ⟨L, 0, none⟩ x').setCell ⟨L, 1, none⟩ y').heap[b]? = wr.heap[b]? := fun b hb => by
    rw [Below.heap_setCell _ _ _ _ (by simpa using hb), Below.heap_setCell _ _ _ _ (by simpa using hb)]
  have hc : ∀ (o : Nat) (v : Value), wr.cell? ⟨B, o, none⟩ = some v → ((wr.setCell ⟨L, 0, none⟩ x').setCell ⟨L, 1, none⟩ y').cell? ⟨B, o, none⟩ = some v := fun o v q =>
    (World.cell?_of_block (hk B (by omega))).trans q
  have hf : ∀ (o : Nat), wr.frozen? ⟨B, o, none⟩ = false → ((wr.setCell ⟨L, 0, none⟩ x').setCell ⟨L, 1, none⟩ y').frozen? ⟨B, o, none⟩ = false := fun o q => by
    rw [World.frozen?_setCell, World.frozen?_setCell]; exact q
  { h with
    new := (h.new.setCell (Nat.le_refl _) _).setCell (Nat.le_refl _) _
    keep := fun b hb hb' => (hk b hb').trans (h.keep b hb hb')
    l0 := by rw [set_other (by simp)]; exact set_same h.l0
    l1 := by refine set_same (u := y) ?_; rw [set_other (by simp)]; exact h.l1
    g0 := by rw [World.frozen?_setCell, World.frozen?_setCell]; exact h.g0
    g1 := by rw [World.frozen?_setCell, World.frozen?_setCell]; exact h.g1
    c0 := hc _ _ h.c0, c1 := hc _ _ h.c1, c2 := hc _ _ h.c2, f0 := hf _ h.f0, f1 := hf _ h.f1, f2 := hf _ h.f2
    levs := ownsRow_block h.levs fun g e => hk g (by have := (h.levs.lt g e).1; omega)
    outs := ownsRow_block h.outs fun g e => hk g (by have := (h.outs.lt g e).1; omega) }
theorem RunC.set (h : RunC v0 wr L base B e1 e2 x y p0 p1 s vl m ll vo n lo) (o : Nat) (v : Value) {q0 q1 q2 : Value} (h0 : q0 = if o = 0 then v else p0) (h1 : q1 = if o = 1 then v else p1) (h2 : q2 = if o = 2 then v else s) :
    RunC v0 (wr.setCell ⟨B, o, none⟩ v) L base B e1 e2 x y q0 q1 q2 vl m ll vo n lo :=
  have hL := h.ltL
  have hB := h.ltB
  have hk : ∀ b, b ≠ B → (wr.setCell ⟨B, o, none⟩ v).heap[b]? = wr.heap[b]? := fun b hb => Below.heap_setCell _ _ _ _ (by simpa using hb)
  have hc : ∀ (i : Nat) (u q : Value), wr.cell? ⟨B, i, none⟩ = some u → q = (if o = i then v else u) → (wr.setCell ⟨B, o, none⟩ v).cell? ⟨B, i, none⟩ = some q := fun i u q hu e => by
    by_cases hi : o = i
    · subst hi
      rw [if_pos rfl] at e
      rw [e]; exact set_same hu
    · rw [if_neg hi] at e
      rw [e, set_other (by intro e'; cases e'; exact hi rfl)]; exact hu
  { h with
    new := h.new.setCell (by show L ≤ B; omega) _
    keep := fun b hb hb' => (hk b (by omega)).trans (h.keep b hb hb')
    l0 := (World.cell?_of_block (hk L (by omega))).trans h.l0
    l1 := (World.cell?_of_block (hk L (by omega))).trans h.l1
    g0 := by rw [World.frozen?_setCell]; exact h.g0
    g1 := by rw [World.frozen?_setCell]; exact h.g1
    c0 := hc 0 _ _ h.c0 h0, c1 := hc 1 _ _ h.c1 h1, c2 := hc 2 _ _ h.c2 h2
    f0 := by rw [World.frozen?_setCell]; exact h.f0
    f1 := by rw [World.frozen?_setCell]; exact h.f1
    f2 := by rw [World.frozen?_setCell]; exact h.f2
    levs := ownsRow_block h.levs fun g e => hk g (fun e' => h.nl (by rw [e, e']))
    outs := ownsRow_block h.outs fun g e => hk g (fun e' => h.no (by rw [e, e'])) }
theorem RunC.set0 (h : RunC v0 wr L base B e1 e2 x y p0 p1 s vl m ll vo n lo) (v : Value) : RunC v0 (wr.setCell ⟨B, 0, none⟩ v) L base B e1 e2 x y v p1 s vl m ll vo n lo := h.set 0 v rfl rfl rfl
theorem RunC.set1 (h : RunC v0 wr L base B e1 e2 x y p0 p1 s vl m ll vo n lo) (v : Value) : RunC v0 (wr.setCell ⟨B, 1, none⟩ v) L base B e1 e2 x y p0 v s vl m ll vo n lo := h.set 1 v rfl rfl rfl
theorem RunC.set2 (h : RunC v0 wr L base B e1 e2 x y p0 p1 s vl m ll vo n lo) (v : Value) : RunC v0 (wr.setCell ⟨B, 2, none⟩ v) L base B e1 e2 x y p0 p1 v vl m ll vo n lo := h.set 2 v rfl rfl rfl
theorem RunC.growL (h : RunC v0 wr L base B e1 e2 x y p0 p1 s vl m ll vo n lo)
    (ho : w'.ownsRow base e2 2 (.slice (some ⟨g, 0, none⟩) m' cap) m' ll') (hg : wr.grownBy w' vl.ownBlock) (hb : vl.ownBlock = some g ∨ g = wr.heap.size) :
    RunC v0 w' L base B e1 e2 x y p0 p1 s (.slice (some ⟨g, 0, none⟩) m' cap) m' ll' vo n lo :=
  have hL := h.ltL
  have hB := h.ltB
  have hz := h.bsize
  have ap : ∀ g, vo.ownBlock = some g → vl.ownBlock ≠ some g := fun g e e' => h.apart g e' e
  have nB : some B ≠ vl.ownBlock := fun e => h.nl e.symm
  { h with
    new := Below.grown h.new (by omega) h.levs (by omega) hg
    keep := fun b hb hb' => (hg.block b (by omega) (fun e => by have := (h.levs.lt b e.symm).1; omega)).trans (h.keep b hb hb')
    l0 := grown_cell h.levs hg hL h.l0
    l1 := grown_cell h.levs hg hL h.l1
    g0 := grown_frozen h.levs hg hL (by show L < _; omega) h.g0
    g1 := grown_frozen h.levs hg hL (by show L < _; omega) h.g1
    c0 := hg.cell h.c0 nB, c1 := hg.cell h.c1 nB, c2 := hg.cell h.c2 nB
    f0 := (hg.frozen_far ⟨B, 0, none⟩ hz nB).trans h.f0
    f1 := (hg.frozen_far ⟨B, 1, none⟩ hz nB).trans h.f1
    f2 := (hg.frozen_far ⟨B, 2, none⟩ hz nB).trans h.f2
    levs := ho
    outs := rows_beside h.outs ap hg
    nl := fun e => by
      simp [Value.ownBlock] at e
      subst e
      rcases hb with hb | hb
      · exact h.nl hb
      · omega
    apart := fun q e e' => rows_apart h.outs ap hb q e' e }
theorem RunC.growO (h : RunC v0 wr L base B e1 e2 x y p0 p1 s vl m ll vo n lo)
    (ho : w'.ownsRow base e1 1 (.slice (some ⟨g, 0, none⟩) n' cap) n' lo') (hg : wr.grownBy w' vo.ownBlock) (hb : vo.ownBlock = some g ∨ g = wr.heap.size) :
    RunC v0 w' L base B e1 e2 x y p0 p1 s vl m ll (.slice (some ⟨g, 0, none⟩) n' cap) n' lo' :=
  have hL := h.ltL
  have hB := h.ltB
  have hz := h.bsize
  have nB : some B ≠ vo.ownBlock := fun e => h.no e.symm
  { h with
    new := Below.grown h.new (by omega) h.outs (by omega) hg
    keep := fun b hb hb' => (hg.block b (by omega) (fun e => by have := (h.outs.lt b e.symm).1; omega)).trans (h.keep b hb hb')
    l0 := grown_cell h.outs hg hL h.l0
    l1 := grown_cell h.outs hg hL h.l1
    g0 := grown_frozen h.outs hg hL (by show L < _; omega) h.g0
    g1 := grown_frozen h.outs hg hL (by show L < _; omega) h.g1
    c0 := hg.cell h.c0 nB, c1 := hg.cell h.c1 nB, c2 := hg.cell h.c2 nB
    f0 := (hg.frozen_far ⟨B, 0, none⟩ hz nB).trans h.f0
    f1 := (hg.frozen_far ⟨B, 1, none⟩ hz nB).trans h.f1
    f2 := (hg.frozen_far ⟨B, 2, none⟩ hz nB).trans h.f2
    levs := rows_beside h.levs h.apart hg
    outs := ho
    no := fun e => by
      simp [Value.ownBlock] at e
      subst e
      rcases hb with hb | hb
      · exact h.no hb
      · omega
    apart := rows_apart h.levs h.apart hb }
end
end Go.Proofs.Ytfhpmihjfojbnaa
