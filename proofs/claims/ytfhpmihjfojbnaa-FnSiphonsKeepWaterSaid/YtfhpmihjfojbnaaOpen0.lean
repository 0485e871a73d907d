/- What a law's arguments are, out of their reading: numbers, lists, structs of numbers. -/
import Derived.Test.YtfhpmihjfojbnaaHelp
import Derived.ProofKit
import Derived.OpenShut
import Derived.ChangeOld
import Derived.Lib.SmallJoins
namespace Go.Proofs.Ytfhpmihjfojbnaa
open Go.ChangeShapes Go.WideShapes Go.ChangeAt Go.RowKit Go.Joins

theorem own : ownKnob Try.prog.godebug = none := by kernel_rfl
theorem laidOut : laidOutB Try.prog = true := by kernel_rfl

theorem Ints.of_trod {H : Type} {enc : TypeId × Value → H} {W : World} {fuel : Nat} {v : Value} {x : DataW H × List MemPlace}
    (h : DataW.trod enc Try.prog W 0 (fun _ => true) true fuel 28 [v] = some x) : ∃ ao n cap l, v = .slice ao n cap ∧ Ints W ao n cap l := by
  rcases open_ints Try.underlying28 Try.underlying3 (by kernel_rfl) h with ⟨hcs, _⟩ | ⟨a, len, cap, zs, hcs, _, hl, hm, hz, _, hcell, _⟩
  · simp at hcs
    exact ⟨none, 0, 0, [], hcs, Ints.nil W⟩
  · simp at hcs
    refine ⟨some a, len, cap, zs.take len, hcs, ?_, hl, ?_, fun j hj => ?_, fun e => by cases e⟩
    · simp at hz
      rw [List.length_take]; omega
    · unfold maxLen at hm; omega
    · simp at hz
      have hc := hcell j (by omega)
      have h0 := hcell 0 (by omega)
      obtain ⟨b, o, spot⟩ := a
      have hs' : spot = none := by simpa [Addr.add] using World.cell?_spot h0
      subst hs'
      refine ⟨b, o, rfl, ?_⟩
      have ha : (⟨b, o, none⟩ : Addr).add j = ⟨b, o + j, none⟩ := by unfold Addr.add; split <;> simp_all
      rw [ha] at hc
      rw [hc, List.getElem?_take, if_pos hj]
      simp [List.getD]

set_option maxRecDepth 100000 in
theorem open_intS {H : Type} {enc : TypeId × Value → H} {W : World} {base : Nat} {v : Value} {d : DataW H} {p : List MemPlace} (hv : Value.okWide Try.prog W .any base 28 v)
    (h : DataW.Trod enc Try.prog W 0 (fun _ => true) true 28 v d p) : ∃ ao n cap l, v = .slice ao n cap ∧ Ints W ao n cap l := by
  obtain ⟨a, len, cap, rfl⟩ := okWide_slice Try.underlying28 hv
  obtain ⟨fuel, hf⟩ := h
  exact Ints.of_trod (by simpa [Value.cells] using hf)
end Go.Proofs.Ytfhpmihjfojbnaa
