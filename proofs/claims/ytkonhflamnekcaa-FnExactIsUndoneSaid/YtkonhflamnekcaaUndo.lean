/- Whether a single move brings the vessels back: the model. Nothing here speaks of the program's text. -/
import Derived.Test.YtkonhflamnekcaaGrid
import Derived.Test.YtkonhflamnekcaaAlong
namespace Go.Proofs.Ytkonhflamnekcaa
open Go.RowKit

def backB (S H K : List Int) (p : Int × Int) : Bool := decide (poured S K p.1 p.2 = H)
def undoneB (S H : List Int) (f t : Int) : Bool := (allL S.length false).any (backB S H (poured S H f t))
def undoneM (S H : List Int) (f t : Int) : Bool × Bool := if askedB S H f t = true then (undoneB S H f t, true) else (false, false)
theorem undoneM_no {S H : List Int} {f t : Int} (h : askedB S H f t = false) : undoneM S H f t = (false, false) := by simp [undoneM, h]
theorem undoneM_yes {S H : List Int} {f t : Int} (h : askedB S H f t = true) : undoneM S H f t = (undoneB S H f t, true) := by simp [undoneM, h]

theorem set_self (l : List Int) (i : Nat) : l.set i (l[i]?.getD 0) = l := by
  apply List.ext_getElem (by simp)
  intro j h1 h2
  rw [List.getElem_set]
  split
  · rename_i e; subst e; simp [List.getElem?_eq_getElem h2]
  · rfl
theorem poured_still {S K : List Int} {f t : Int} (hm : MoveOk S.length f t) (h0 : amt S K f t = 0) : poured S K f t = K := by
  rcases hm.parts with ⟨rfl, a, rfl, ha⟩ | ⟨rfl, a, rfl, ha⟩ | ⟨a, b, rfl, rfl, ha, hb, hab⟩
  · rw [poured_in, h0, Int.add_zero, set_self]
  · rw [poured_out, h0, Int.sub_zero, set_self]
  · rw [poured_mid S K a b hab, h0, Int.sub_zero, Int.add_zero, set_self, set_self]
theorem mem_allL {n : Nat} {f t : Int} (h : MoveOk n f t) : (f, t) ∈ allL n false := by
  obtain ⟨⟨a, b⟩, ⟨c, d⟩, e⟩ := h
  show (f, t) ∈ gridUp twoB (-1) (n + 1) (n + 1)
  unfold gridUp gridRow
  rw [List.mem_flatMap]
  refine ⟨(f + 1).toNat, List.mem_range.2 (by omega), ?_⟩
  rw [List.mem_filter, List.mem_map]
  refine ⟨⟨(t + 1).toNat, List.mem_range.2 (by omega), ?_⟩, by simp [twoB, e]⟩
  have e1 : -1 + (((f + 1).toNat : Nat) : Int) = f := by omega
  have e2 : -1 + (((t + 1).toNat : Nat) : Int) = t := by omega
  rw [e1, e2]
/-- Where the move has left all as it was. -/
theorem undone_same {S H : List Int} {f t : Int} (hm : MoveOk S.length f t) (h : poured S H f t = H) : undoneB S H f t = true := by
  unfold undoneB
  rw [List.any_eq_true]
  exact ⟨(f, t), mem_allL hm, by simp [backB, h]⟩
/-- Else the moves with an amount tell. -/
theorem undone_on {S H : List Int} {f t : Int} (h : poured S H f t ≠ H) : undoneB S H f t = (onL S (poured S H f t) false).any (backB S H (poured S H f t)) := by
  rw [← all_on, List.any_filter]
  unfold undoneB
  have ok : ∀ p ∈ allL S.length false, backB S H (poured S H f t) p = (amtB S (poured S H f t) p && backB S H (poured S H f t) p) := by
    intro p hp
    by_cases ha : amt S (poured S H f t) p.1 p.2 = 0
    · have hmv : MoveOk S.length p.1 p.2 := by
        unfold allL gridUp gridRow at hp
        rw [List.mem_flatMap] at hp
        obtain ⟨a, hA, hp⟩ := hp
        rw [List.mem_filter, List.mem_map] at hp
        obtain ⟨⟨j, hj, rfl⟩, h2⟩ := hp
        have hA := List.mem_range.1 hA
        have hj := List.mem_range.1 hj
        simp only [twoB, decide_eq_true_eq] at h2
        simp [allN] at hA hj
        exact ⟨by simp [allLo]; omega, by simp [allLo]; omega, h2⟩
      have : backB S H (poured S H f t) p = false := by simp [backB, poured_still hmv ha, h]
      rw [this]
      simp
    · have : amtB S (poured S H f t) p = true := by simp [amtB, ha]
      rw [this]
      simp
  rw [Bool.eq_iff_iff, List.any_eq_true, List.any_eq_true]
  constructor
  · rintro ⟨p, hp, hb⟩
    exact ⟨p, hp, by rw [← ok p hp]; exact hb⟩
  · rintro ⟨p, hp, hb⟩
    exact ⟨p, hp, by rw [ok p hp]; exact hb⟩
theorem any_take {α : Type} {l : List α} {p : α → Bool} {k : Nat} (hk : k < l.length) (d : α) : (l.take (k + 1)).any p = ((l.take k).any p || p (l[k]?.getD d)) := by
  rw [List.take_succ_eq_append_getElem hk, List.any_append, List.getElem?_eq_getElem hk]
  simp
end Go.Proofs.Ytkonhflamnekcaa
