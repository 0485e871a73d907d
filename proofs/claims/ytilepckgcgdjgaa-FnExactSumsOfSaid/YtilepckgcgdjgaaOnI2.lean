/- MovesOn, the program's. -/
import Derived.Test.YtilepckgcgdjgaaOnI
import Derived.Test.YtilepckgcgdjgaaImpl3
namespace Go.Proofs.Ytilepckgcgdjgaa
open Go.RowKit

theorem Chg.setCells (w : World) (B : Nat) : ∀ (vs : List Value) (o : Nat), Chg (fun b => b = B) w (w.setCells B o vs) := by
  intro vs
  induction vs generalizing w with
  | nil => intro o; exact Chg.refl _ _
  | cons v r ih => intro o; exact (Chg.setCell (p := ⟨B, o, none⟩) v).trans (ih _ (o + 1))
theorem allL_ok {n : Nat} {closed : Bool} {p : Int × Int} (h : p ∈ allL n closed) : MoveOk n p.1 p.2 := by
  unfold allL gridUp gridRow at h
  rw [List.mem_flatMap] at h
  obtain ⟨a, ha, hp⟩ := h
  rw [List.mem_filter, List.mem_map] at hp
  obtain ⟨⟨j, hj, rfl⟩, h2⟩ := hp
  have ha := List.mem_range.1 ha
  have hj := List.mem_range.1 hj
  simp only [twoB, decide_eq_true_eq] at h2
  refine ⟨?_, ?_, h2⟩ <;> (unfold allLo; unfold allN at ha hj; cases closed <;> simp at ha hj ⊢ <;> omega)
theorem allL_small {n : Nat} (closed : Bool) (h : n ≤ 5) : (allL n closed).length ≤ 42 := by
  have := grid_small twoB (allLo closed) (N := allN n closed) (i := allN n closed) (k := 0) (by unfold allN; split <;> omega) (Nat.le_refl _) (Nat.zero_le _)
  rw [grid_zero] at this
  exact this
theorem filter_take {α : Type} {l : List α} {p : α → Bool} {k : Nat} (hk : k < l.length) (d : α) : (l.take (k + 1)).filter p = (l.take k).filter p ++ (if p (l[k]?.getD d) = true then [l[k]?.getD d] else []) := by
  rw [List.take_succ_eq_append_getElem hk, List.filter_append, List.getElem?_eq_getElem hk]
  simp [List.filter_cons]
theorem filter_small {α : Type} (l : List α) (p : α → Bool) (k : Nat) : ((l.take k).filter p).length ≤ l.length :=
  Nat.le_trans (List.length_filter_le _ _) (by rw [List.length_take]; omega)
end Go.Proofs.Ytilepckgcgdjgaa
