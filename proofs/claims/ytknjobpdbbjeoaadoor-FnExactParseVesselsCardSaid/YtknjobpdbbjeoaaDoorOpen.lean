/- What a law's arguments are, out of their reading. -/
import Derived.Test.YtknjobpdbbjeoaaDoorHelpV
import Derived.ProofKit
import Derived.OpenShut
import Derived.ChangeOld
import Derived.Lib.SmallJoins
namespace Go.Proofs.YtknjobpdbbjeoaaDoor
open Go.ChangeShapes Go.WideShapes Go.ChangeAt Go.RowKit Go.Joins

theorem own : ownKnob Tryd.prog.godebug = none := by kernel_rfl
theorem laidOut : laidOutB Tryd.prog = true := by kernel_rfl

theorem Ints.of_trod {H : Type} {enc : TypeId × Value → H} {W : World} {fuel : Nat} {v : Value} {x : DataW H × List MemPlace}
    (h : DataW.trod enc Tryd.prog W 0 (fun _ => true) true fuel 22 [v] = some x) : ∃ ao n cap l, v = .slice ao n cap ∧ Ints W ao n cap l := by
  rcases open_ints Tryd.underlying22 Tryd.underlying3 (by kernel_rfl) h with ⟨hcs, _⟩ | ⟨a, len, cap, zs, hcs, _, hl, hm, hz, _, hcell, _⟩
  · simp at hcs
    exact ⟨none, 0, 0, [], hcs, Ints.nil W⟩
  · simp at hcs
    refine ⟨some a, len, cap, zs.take len, hcs, ?_, hl, ?_, fun j hj => ?_, fun e => by cases e⟩
    · simp at hz
      rw [List.length_take]; omega
    · unfold maxLen at hm; omega
    · simp at hz
      have hc := hcell j (by omega)
      have h0 := hcell 0 (by omega)
      obtain ⟨b, o, spot⟩ := a
      have hs' : spot = none := by simpa [Addr.add] using World.cell?_spot h0
      subst hs'
      refine ⟨b, o, rfl, ?_⟩
      have ha : (⟨b, o, none⟩ : Addr).add j = ⟨b, o + j, none⟩ := by unfold Addr.add; split <;> simp_all
      rw [ha] at hc
      rw [hc, List.getElem?_take, if_pos hj]
      simp [List.getD]

end Go.Proofs.YtknjobpdbbjeoaaDoor
