/- A basin of a row of the call's own with another Size: three cells stored. -/
import Derived.Test.YtchnnbkaiagpgaaRowBasin
import Derived.Test.YtchnnbkaiagpgaaLsM
namespace Go.Proofs.Ytchnnbkaiagpgaa
open Go.RowKit

theorem OwnBasin.cellsAt {w : World} {lo hi g n cap : Nat} {l : List (Int × Int × Int)} (h : OwnBasin w lo hi (some ⟨g, 0, none⟩) n cap l) {k : Nat} (hk : k < n) :
    (w.cell? ⟨g, k * 3, none⟩ = some (.int .i64 (l[k]?.getD (0, 0, 0)).1) ∧ w.cell? ⟨g, k * 3 + 1, none⟩ = some (.int .i64 (l[k]?.getD (0, 0, 0)).2.1) ∧ w.cell? ⟨g, k * 3 + 2, none⟩ = some (.int .i64 (l[k]?.getD (0, 0, 0)).2.2)) ∧ ∀ i, w.frozen? ⟨g, i, none⟩ = false := by
  obtain ⟨h1, h2, h3, h4⟩ := h
  rcases h4 with h4 | ⟨b, f, e, hl, hh, hr, hf⟩
  · omega
  · cases e
    obtain ⟨g0, g1, g2⟩ := hf k hk
    refine ⟨⟨by rw [hr.cell (i := k * 3) (by omega), g0], by rw [hr.cell (i := k * 3 + 1) (by omega), g1], by rw [hr.cell (i := k * 3 + 2) (by omega), g2]⟩, fun i => hr.frozen i⟩
theorem OwnBasin.setAt {w : World} {lo hi g n cap : Nat} {l : List (Int × Int × Int)} (h : OwnBasin w lo hi (some ⟨g, 0, none⟩) n cap l) {k : Nat} (hk : k < n) (s u v : Int) (hu : u = (l[k]?.getD (0, 0, 0)).2.1) (hv : v = (l[k]?.getD (0, 0, 0)).2.2) :
    OwnBasin (((w.setCell ⟨g, k * 3, none⟩ (.int .i64 s)).setCell ⟨g, k * 3 + 1, none⟩ (.int .i64 u)).setCell ⟨g, k * 3 + 2, none⟩ (.int .i64 v)) lo hi (some ⟨g, 0, none⟩) n cap (setS l k s) := by
  obtain ⟨h1, h2, h3, h4⟩ := h
  rcases h4 with h4 | ⟨b, f, e, hl, hh, hr, hf⟩
  · omega
  · cases e
    refine ⟨by rw [setS_length]; exact h1, h2, h3, .inr ⟨g, _, rfl, hl, hh, ((hr.set (k * 3) _).set (k * 3 + 1) _).set (k * 3 + 2) _, fun j hj => ?_⟩⟩
    by_cases e : j = k
    · subst e
      rw [setS_same _ _ _ (by omega), ← hu, ← hv]
      simp
    · rw [setS_other _ _ _ _ e]
      obtain ⟨g0, g1, g2⟩ := hf j hj
      refine ⟨?_, ?_, ?_⟩
      · rw [if_neg (by omega), if_neg (by omega), if_neg (by omega)]; exact g0
      · rw [if_neg (by omega), if_neg (by omega), if_neg (by omega)]; exact g1
      · rw [if_neg (by omega), if_neg (by omega), if_neg (by omega)]; exact g2
end Go.Proofs.Ytchnnbkaiagpgaa
