/- Two rows in a box of two slices, each the beginning of a list. -/
import Derived.Test.YtknjobpdbbjeoaaDoorHelpV
import Derived.Test.YtknjobpdbbjeoaaDoorRows2
namespace Go.Proofs.YtknjobpdbbjeoaaDoor
open Go.RowKit

/-- Both rows, the first a and b elements of two lists. -/
structure Both (w : World) (B : Nat) (wr : World) (vS vH : Value) (a b : Nat) (xs ys : List Int) : Prop where
  new : New w wr
  lo : w.heap.size ≤ B
  s : RowAt B wr 0 3 1 vS a ((xs.take a).map (Value.int .i64))
  h : RowAt B wr 1 3 1 vH b ((ys.take b).map (Value.int .i64))
  apart : ∀ g, vS.ownBlock = some g → vH.ownBlock ≠ some g
theorem Both.kept {w wr wr' : World} {B : Nat} {vS vH : Value} {a b : Nat} {xs ys : List Int} (h : Both w B wr vS vH a b xs ys) (k : New wr wr') : Both w B wr' vS vH a b xs ys :=
  ⟨h.new.trans k, h.lo, h.s.new k, h.h.new k, h.apart⟩
theorem take_put {l : List Int} {k : Nat} (hk : k < l.length) {z : Int} (e : l[k]?.getD 0 = z) : (l.take k).map (Value.int .i64) ++ [Value.int .i64 z] = (l.take (k + 1)).map (Value.int .i64) := by
  subst e
  rw [List.take_succ_eq_append_getElem hk, List.map_append]
  simp [List.getElem?_eq_getElem hk]
theorem Both.first {w wr w' : World} {B : Nat} {vS vH : Value} {a b g cap : Nat} {xs ys : List Int} {z : Int} (h : Both w B wr vS vH a b xs ys) (ha : a < xs.length) (e : xs[a]?.getD 0 = z)
    (ho : w'.ownsRow (B + 1) 3 1 (.slice (some ⟨g, 0, none⟩) (a + 1) cap) (a + 1) ((xs.take a).map (Value.int .i64) ++ [.int .i64 z])) (hg : wr.grownBy w' vS.ownBlock) (hb : vS.ownBlock = some g ∨ g = wr.heap.size) :
    Both w B (w'.setCell ⟨B, 0, none⟩ (.slice (some ⟨g, 0, none⟩) (a + 1) cap)) (.slice (some ⟨g, 0, none⟩) (a + 1) cap) vH (a + 1) b xs ys where
  new := h.s.frame h.new h.lo hg ho
  lo := h.lo
  s := by rw [← take_put ha e]; exact h.s.grown hg ho
  h := h.s.beside h.h (by omega) (fun g e e' => h.apart g e' e) hg ho
  apart := fun g' e' e => (h.h.apart (fun g e e' => h.apart g e' e) hb) g' e e'
theorem Both.second {w wr w' : World} {B : Nat} {vS vH : Value} {a b g cap : Nat} {xs ys : List Int} {z : Int} (h : Both w B wr vS vH a b xs ys) (ha : b < ys.length) (e : ys[b]?.getD 0 = z)
    (ho : w'.ownsRow (B + 1) 3 1 (.slice (some ⟨g, 0, none⟩) (b + 1) cap) (b + 1) ((ys.take b).map (Value.int .i64) ++ [.int .i64 z])) (hg : wr.grownBy w' vH.ownBlock) (hb : vH.ownBlock = some g ∨ g = wr.heap.size) :
    Both w B (w'.setCell ⟨B, 1, none⟩ (.slice (some ⟨g, 0, none⟩) (b + 1) cap)) vS (.slice (some ⟨g, 0, none⟩) (b + 1) cap) a (b + 1) xs ys where
  new := h.h.frame h.new h.lo hg ho
  lo := h.lo
  s := h.h.beside h.s (by omega) h.apart hg ho
  h := by rw [← take_put ha e]; exact h.h.grown hg ho
  apart := (h.s.apart h.apart hb)
theorem Both.own {w wr : World} {B : Nat} {vS vH : Value} {a b : Nat} {xs ys : List Int} (h : Both w B wr vS vH a b xs ys) (ha : xs.length ≤ a) (hb : ys.length ≤ b) :
    ∃ sa sc sb sd, vS = .slice sa a sc ∧ vH = .slice sb b sd ∧ OwnV wr w.heap.size wr.heap.size sa a sc sb b sd xs ys := by
  have hs := h.s.own
  have hh := h.h.own
  rw [List.take_of_length_le ha] at hs
  rw [List.take_of_length_le hb] at hh
  obtain ⟨sa, sc, rfl, o1⟩ := Own.of_row hs
  obtain ⟨sb, sd, rfl, o2⟩ := Own.of_row hh
  have hlo := h.lo
  refine ⟨sa, sc, sb, sd, rfl, rfl, o1.mono (by omega) (Nat.le_refl _), o2.mono (by omega) (Nat.le_refl _), fun _ _ e => ?_⟩
  cases sa with
  | none => cases sb with
    | none => rename_i n1 _; exact absurd (o1.has n1 rfl) (by simp)
    | some b => simp [blkOf] at e
  | some a => cases sb with
    | none => simp [blkOf] at e
    | some b =>
      simp [blkOf] at e
      exact h.apart a.block rfl (by simp [Value.ownBlock, e])

end Go.Proofs.YtknjobpdbbjeoaaDoor
