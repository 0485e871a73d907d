/- The laws' helpers over Vessels and Move. -/
import Derived.Test.YtefpnlimkelehaaHelp
namespace Go.Proofs.Ytefpnlimkelehaa
open Go.RowKit

/-- The two slices of vessels, each in a row of its own, apart from each other. -/
def OwnV (w : World) (lo hi : Nat) (aa : Option Addr) (n ca : Nat) (ab : Option Addr) (m cb : Nat) (S H : List Int) : Prop :=
  Own w lo hi aa n ca S ∧ Own w lo hi ab m cb H ∧ (n ≠ 0 → m ≠ 0 → blkOf aa ≠ blkOf ab)
theorem OwnV.new {w w' : World} {lo hi : Nat} {aa ab : Option Addr} {n m ca cb : Nat} {S H : List Int} (h : OwnV w lo hi aa n ca ab m cb S H) (k : New w w') : OwnV w' lo hi aa n ca ab m cb S H :=
  ⟨h.1.new k, h.2.1.new k, h.2.2⟩
theorem OwnV.chg {P : Nat → Prop} {w w' : World} {lo hi : Nat} {aa ab : Option Addr} {n m ca cb : Nat} {S H : List Int} (h : OwnV w lo hi aa n ca ab m cb S H) (k : Chg P w w') (hP : ∀ b, lo ≤ b → b < hi → ¬ P b) : OwnV w' lo hi aa n ca ab m cb S H :=
  ⟨h.1.chg k hP, h.2.1.chg k hP, h.2.2⟩
theorem OwnV.mono {w : World} {lo hi lo' hi' : Nat} {aa ab : Option Addr} {n m ca cb : Nat} {S H : List Int} (h : OwnV w lo hi aa n ca ab m cb S H) (h1 : lo' ≤ lo) (h2 : hi ≤ hi') : OwnV w lo' hi' aa n ca ab m cb S H :=
  ⟨h.1.mono h1 h2, h.2.1.mono h1 h2, h.2.2⟩
theorem OwnV.nil (w : World) (lo hi : Nat) : OwnV w lo hi none 0 0 none 0 0 [] [] := ⟨Own.nil _ _ _, Own.nil _ _ _, fun h => absurd rfl h⟩

theorem OwnV.setCell {w : World} {lo hi : Nat} {aa ab : Option Addr} {n m ca cb : Nat} {S H : List Int} (h : OwnV w lo hi aa n ca ab m cb S H) {p : Addr} (hp : p.block < lo ∨ hi ≤ p.block) (u : Value) : OwnV (w.setCell p u) lo hi aa n ca ab m cb S H :=
  ⟨h.1.setCell hp u, h.2.1.setCell hp u, h.2.2⟩
theorem OwnV.heldStore {w : World} {lo hi : Nat} {aa : Option Addr} {n m ca cb br j : Nat} {S H : List Int} (h : OwnV w lo hi aa n ca (some ⟨br, 0, none⟩) m cb S H) (hj : j < m) (z : Int) :
    OwnV (w.setCell ⟨br, j, none⟩ (.int .i64 z)) lo hi aa n ca (some ⟨br, 0, none⟩) m cb S (H.set j z) :=
  ⟨h.1.turned fun b hn hb hlt => Below.heap_setCell _ _ _ _ (fun e => h.2.2 hn (by omega) (by rw [hb]; simp [blkOf]; exact e)), h.2.1.store hj z, h.2.2⟩

/-- Vessels in a box of their own, made since W0. -/
structure BoxV (W0 W : World) (B : Nat) (sa : Option Addr) (n sc : Nat) (sb : Option Addr) (m sd : Nat) (S H : List Int) : Prop where
  new : New W0 W
  lo : W0.heap.size ≤ B
  hi : B < W.heap.size
  c0 : W.cell? ⟨B, 0, none⟩ = some (.slice sa n sc)
  c1 : W.cell? ⟨B, 1, none⟩ = some (.slice sb m sd)
  own : OwnV W W0.heap.size W.heap.size sa n sc sb m sd S H
  apa : n ≠ 0 → blkOf sa ≠ some B
  apb : m ≠ 0 → blkOf sb ≠ some B
/-- A box made behind the call that has given the vessels. -/
theorem BoxV.behind {W0 W : World} {sa sb : Option Addr} {n sc m sd : Nat} {S H : List Int} {t : TypeId} (hn : New W0 W) (ho : OwnV W W0.heap.size W.heap.size sa n sc sb m sd S H) :
    BoxV W0 (W.alloc (.cells #[.slice sa n sc, .slice sb m sd] t)) W.heap.size sa n sc sb m sd S H where
  new := hn.alloc _
  lo := hn.size
  hi := by simp
  c0 := by simp
  c1 := by simp
  own := (ho.new ((New.refl W).alloc _)).mono (Nat.le_refl _) (by simp)
  apa := fun h e => by have := (ho.1.bounds h e).2; omega
  apb := fun h e => by have := (ho.2.1.bounds h e).2; omega
/-- A box that lay ahead of it. -/
theorem BoxV.put {W0 W : World} {sa sb : Option Addr} {n sc m sd B : Nat} {S H : List Int} {x y : Value} (h1 : New W0 W) (hB : W0.heap.size ≤ B) (hB' : B < W.heap.size) (k0 : W.cell? ⟨B, 0, none⟩ = some x) (k1 : W.cell? ⟨B, 1, none⟩ = some y)
    (ho : OwnV W W0.heap.size W.heap.size sa n sc sb m sd S H) (ha : n ≠ 0 → blkOf sa ≠ some B) (hb : m ≠ 0 → blkOf sb ≠ some B) :
    BoxV W0 ((W.setCell ⟨B, 0, none⟩ (.slice sa n sc)).setCell ⟨B, 1, none⟩ (.slice sb m sd)) B sa n sc sb m sd S H := by
  have hp : Chg (fun b => b = B) W ((W.setCell ⟨B, 0, none⟩ (.slice sa n sc)).setCell ⟨B, 1, none⟩ (.slice sb m sd)) :=
    (Chg.setCell (p := ⟨B, 0, none⟩) _).trans (Chg.setCell (p := ⟨B, 1, none⟩) _)
  exact {
    new := (h1.setCell hB _).setCell hB _
    lo := hB
    hi := by simpa using hB'
    c0 := by
      rw [set_other (by simp)]
      exact set_same k0
    c1 := by
      refine set_same (u := y) ?_
      rw [set_other (by simp)]
      exact k1
    own := by
      have q := ho.2.2
      refine ⟨(ho.1.turned fun b hn hb' hlt => hp.block b hlt (fun e => ha hn (hb'.trans (congrArg some e)))).mono (Nat.le_refl _) (by simp), (ho.2.1.turned fun b hn hb' hlt => hp.block b hlt (fun e => hb hn (hb'.trans (congrArg some e)))).mono (Nat.le_refl _) (by simp), q⟩
    apa := ha
    apb := hb }
theorem OwnV.two {w2 w3 : World} {lo lo2 hi2 lo3 hi3 n m ca cb : Nat} {aa ab : Option Addr} {S H : List Int} (o2 : Own w2 lo2 hi2 aa n ca S) (o3 : Own w3 lo3 hi3 ab m cb H) (k : New w2 w3) (h1 : lo ≤ lo2) (h2 : hi2 ≤ lo3) (h3 : lo ≤ lo3) (h4 : hi2 ≤ hi3) : OwnV w3 lo hi3 aa n ca ab m cb S H :=
  ⟨(o2.new k).mono h1 h4, o3.mono h3 (Nat.le_refl _), fun hn hm e => by
    cases hb : blkOf ab with
    | none => exact o3.has hm hb
    | some b => have q1 := o2.bounds hn (e.trans hb); have q2 := o3.bounds hm hb; omega⟩
end Go.Proofs.Ytefpnlimkelehaa
