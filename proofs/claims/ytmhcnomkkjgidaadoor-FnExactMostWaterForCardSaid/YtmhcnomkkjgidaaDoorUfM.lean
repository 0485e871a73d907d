/- What the functions of traffic come to. -/
import Derived.Test.YtmhcnomkkjgidaaDoorUse
namespace Go.Proofs.YtmhcnomkkjgidaaDoor
open Go.RowKit

def rssM (L : List Int) (F : List Bool) (s : ByteArray) : List Int × List Bool := if usB L F s = true then (L, (stE L F s).F) else ([], [])
def chgM (L : List Int) (F : List Bool) (s : ByteArray) : List Int := if usB L F s = true then (stE L F s).C else []
def fgsM (L : List Int) (F : List Bool) (s : ByteArray) : List Int := if usB L F s = true then (stE L F s).N else []
def wusM (L : List Int) (F : List Bool) (s : ByteArray) : Int := if usB L F s = true then IntKind.i64.wrap (-((stE L F s).C[L.length]?.getD 0)) else 0
/-- A row of ints and whether there is one. -/
def RetIs (w : World) (R : List Int) (g : Bool) (e : Ending) (w' : World) : Prop :=
  ∃ sa n sc, e = .returned (.tuple #[.slice sa n sc, .bool g]) ∧ Own w' w.heap.size w'.heap.size sa n sc R ∧ New w w'
theorem rssM_no {L : List Int} {F : List Bool} {s : ByteArray} (h : usB L F s = false) : rssM L F s = ([], []) := by unfold rssM; rw [if_neg (by rw [h]; decide)]
theorem chgM_no {L : List Int} {F : List Bool} {s : ByteArray} (h : usB L F s = false) : chgM L F s = [] := by unfold chgM; rw [if_neg (by rw [h]; decide)]
theorem fgsM_no {L : List Int} {F : List Bool} {s : ByteArray} (h : usB L F s = false) : fgsM L F s = [] := by unfold fgsM; rw [if_neg (by rw [h]; decide)]
theorem wusM_no {L : List Int} {F : List Bool} {s : ByteArray} (h : usB L F s = false) : wusM L F s = 0 := by unfold wusM; rw [if_neg (by rw [h]; decide)]
theorem rssM_yes {L : List Int} {F : List Bool} {s : ByteArray} (h : usB L F s = true) : rssM L F s = (L, (stE L F s).F) := by unfold rssM; rw [if_pos h]
theorem chgM_yes {L : List Int} {F : List Bool} {s : ByteArray} (h : usB L F s = true) : chgM L F s = (stE L F s).C := by unfold chgM; rw [if_pos h]
theorem fgsM_yes {L : List Int} {F : List Bool} {s : ByteArray} (h : usB L F s = true) : fgsM L F s = (stE L F s).N := by unfold fgsM; rw [if_pos h]
theorem wusM_yes {L : List Int} {F : List Bool} {s : ByteArray} (h : usB L F s = true) : wusM L F s = IntKind.i64.wrap (-((stE L F s).C[L.length]?.getD 0)) := by unfold wusM; rw [if_pos h]
theorem usB_len {L : List Int} {F : List Bool} {s : ByteArray} (h : usB L F s = true) : L.length ≤ 6 ∧ LkOk L.length (stE L F s) := by
  obtain ⟨h1, h2, _⟩ := fliB_iff.1 (usB_iff.1 h).1
  exact ⟨h1.2, stT_ok h2 s _⟩
theorem rssM_small (L : List Int) (F : List Bool) (s : ByteArray) : (rssM L F s).1.length ≤ 6 ∧ (rssM L F s).2.length ≤ 6 := by
  cases h : usB L F s
  · rw [rssM_no h]; exact ⟨by simp, by simp⟩
  · rw [rssM_yes h]; have := usB_len h; exact ⟨this.1, by have q := this.2.f; dsimp only; omega⟩
theorem chgM_small (L : List Int) (F : List Bool) (s : ByteArray) : (chgM L F s).length ≤ 1048576 := by
  cases h : usB L F s
  · rw [chgM_no h]; simp
  · rw [chgM_yes h]; have := usB_len h; have q := this.2.c; omega
theorem fgsM_small (L : List Int) (F : List Bool) (s : ByteArray) : (fgsM L F s).length ≤ 1048576 := by
  cases h : usB L F s
  · rw [fgsM_no h]; simp
  · rw [fgsM_yes h]; have := usB_len h; have q := this.2.n; omega
theorem Own.nil0 (w : World) (lo hi : Nat) : Own w lo hi none 0 0 [] := ⟨rfl, Nat.le_refl _, by omega, .inl ⟨rfl, fun _ => rfl⟩⟩
end Go.Proofs.YtmhcnomkkjgidaaDoor
