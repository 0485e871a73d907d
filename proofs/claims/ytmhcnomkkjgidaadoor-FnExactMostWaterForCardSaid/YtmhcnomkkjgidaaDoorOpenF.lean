/- What an argument that is a slice of bools, or a flight, reads as. -/
import Derived.Test.YtmhcnomkkjgidaaDoorOpen0
import Derived.Test.YtmhcnomkkjgidaaDoorRowBool
import Derived.Deep.Grids
namespace Go.Proofs.YtmhcnomkkjgidaaDoor
open Go.ChangeShapes Go.WideShapes Go.ChangeAt Go.RowKit Go.Joins

theorem Bools.of_trod {H : Type} {enc : TypeId × Value → H} {W : World} {fuel : Nat} {v : Value} {x : DataW H × List MemPlace}
    (h : DataW.trod enc Tryd.prog W 0 (fun _ => true) true fuel 24 [v] = some x) : ∃ ao n cap l, v = .slice ao n cap ∧ Bools W ao n cap l := by
  rcases Go.Deep.open_bools Tryd.underlying24 Tryd.underlying4 (by kernel_rfl) h with ⟨hcs, _⟩ | ⟨a, len, cap, zs, hcs, _, hl, hm, hz, hcell⟩
  · simp at hcs
    exact ⟨none, 0, 0, [], hcs, Bools.nil W⟩
  · simp at hcs
    refine ⟨some a, len, cap, (List.range len).map zs, hcs, by simp, hl, by unfold maxLen at hm; omega, fun j hj => ?_, fun e => by cases e⟩
    have hc := hcell j (by omega)
    have h0 := hcell 0 (by omega)
    obtain ⟨b, o, spot⟩ := a
    have hs' : spot = none := by simpa [Addr.add] using World.cell?_spot h0
    subst hs'
    have ha : (⟨b, o, none⟩ : Addr).add j = ⟨b, o + j, none⟩ := by unfold Addr.add; split <;> simp_all
    rw [ha] at hc
    refine ⟨b, o, rfl, ?_⟩
    rw [hc]
    simp [hj]

set_option maxRecDepth 100000 in
theorem open_flight {H : Type} {enc : TypeId × Value → H} {W : World} {base : Nat} {v : Value} {d : DataW H} {p : List MemPlace} (hv : Value.okWide Tryd.prog W .any base 26 v)
    (h : DataW.Trod enc Tryd.prog W 0 (fun _ => true) true 26 v d p) :
    ∃ aa n ca ab m cb S K, v = .agg #[.slice aa n ca, .slice ab m cb] ∧ Ints W aa n ca S ∧ Bools W ab m cb K := by
  obtain ⟨c0, c1, y0, y1, m, rfl, _, _, hy0, hy1⟩ := open_agg2 Tryd.underlying26 (by kernel_rfl) (by kernel_rfl) hv h
  obtain ⟨aa, n, ca, S, rfl, i0⟩ := Ints.of_trod hy0
  obtain ⟨ab, m', cb, K, rfl, i1⟩ := Bools.of_trod hy1
  exact ⟨aa, n, ca, ab, m', cb, S, K, rfl, i0, i1⟩
end Go.Proofs.YtmhcnomkkjgidaaDoor
