/- What an argument that is a slice of Tank reads as. -/
import Derived.Test.YtlhpkpfnaepgbaaRowTank
import Derived.Test.YtlhpkpfnaepgbaaOpen0
import Derived.Deep.Slices
import Derived.Deep.SlicePairs
namespace Go.Proofs.Ytlhpkpfnaepgbaa
open Go.RowKit

open Go.ChangeShapes Go.WideShapes Go.ChangeAt Go.Deep in
set_option maxRecDepth 100000 in
theorem Tanks.of_trod {H : Type} {enc : TypeId × Value → H} {W : World} {fuel : Nat} {v : Value} {x : DataW H × List MemPlace}
    (h : DataW.trod enc Try.prog W 0 (fun _ => true) true fuel 22 [v] = some x) : ∃ ao n cap l, v = .slice ao n cap ∧ Tanks W ao n cap l := by
  have ce : Try.prog.cellsOf 49 = 3 := by kernel_rfl
  have ci : Try.prog.cellsOf 3 = 1 := by kernel_rfl
  rcases open_slice Try.underlying22 h with ⟨hcs, _⟩ | ⟨a, len, cap, m, nn, D, Pl, hcs, _, hl, hm, hmm, _, hx⟩
  · simp at hcs
    exact ⟨none, 0, 0, [], hcs, Tanks.nil W⟩
  · simp at hcs hmm
    have each : ∀ i, i < len → ∃ p : Int × Int × Int, W.cell? (a.add (i * 3)) = some (.int .i64 (p.1)) ∧ W.cell? (a.add (i * 3 + 1)) = some (.int .i64 (p.2.1)) ∧ W.cell? (a.add (i * 3 + 2)) = some (.int .i64 (p.2.2)) := fun i hi => by
      obtain ⟨cs', h1, h2⟩ := hx i (by omega)
      rw [ce] at h1
      obtain ⟨_, hlen, hcell⟩ := World.cells?_some h1
      obtain ⟨xs, k, hk, hxy, _, hxl, hf⟩ := DataW.trod_struct Try.underlying49 h2
      match xs, hxl, cs', hlen with
      | [y0, y1, y2], _, [v0, v1, v2], _ =>
        have g0 := hf 0 _ rfl
        have e0 := hcell 0 (by omega)
        have g1 := hf 1 _ rfl
        have e1 := hcell 1 (by omega)
        have g2 := hf 2 _ rfl
        have e2 := hcell 2 (by omega)
        simp [ci] at g0 g1 g2
        rw [add_add] at e0 e1 e2
        obtain ⟨z0, r0, _, _⟩ := DataW.trod_int Try.underlying3 g0
        simp at r0 e0
        subst r0
        obtain ⟨z1, r1, _, _⟩ := DataW.trod_int Try.underlying3 g1
        simp at r1 e1
        subst r1
        obtain ⟨z2, r2, _, _⟩ := DataW.trod_int Try.underlying3 g2
        simp at r2 e2
        subst r2
        exact ⟨(z0, z1, z2), e0, e1, e2⟩
    obtain ⟨p, hp⟩ := choose_lt each
    refine ⟨some a, len, cap, (List.range len).map p, hcs, by simp, hl, by unfold maxLen at hm; omega, fun j hj => ?_, fun e => by cases e⟩
    obtain ⟨c0, c1, c2⟩ := hp j hj
    obtain ⟨d0, _, _⟩ := hp 0 (by omega)
    obtain ⟨b, o, spot⟩ := a
    have hs' : spot = none := by simpa [Addr.add] using World.cell?_spot d0
    subst hs'
    have ha : ∀ i, (⟨b, o, none⟩ : Addr).add i = ⟨b, o + i, none⟩ := fun i => by unfold Addr.add; split <;> simp_all
    rw [ha] at c0 c1 c2
    refine ⟨b, o, rfl, ?_, ?_, ?_⟩
    · rw [c0]; simp [hj]
    · rw [show o + (j * 3 + 1) = o + j * 3 + 1 from by omega] at c1; rw [c1]; simp [hj]
    · rw [show o + (j * 3 + 2) = o + j * 3 + 2 from by omega] at c2; rw [c2]; simp [hj]
open Go.ChangeShapes Go.WideShapes Go.ChangeAt Go.Deep in
set_option maxRecDepth 100000 in
theorem open_TankS {H : Type} {enc : TypeId × Value → H} {W : World} {base : Nat} {v : Value} {d : DataW H} {p : List MemPlace} (hv : Value.okWide Try.prog W .any base 22 v)
    (h : DataW.Trod enc Try.prog W 0 (fun _ => true) true 22 v d p) : ∃ ao n cap l, v = .slice ao n cap ∧ Tanks W ao n cap l := by
  obtain ⟨a, len, cap, rfl⟩ := okWide_slice Try.underlying22 hv
  obtain ⟨fuel, hf⟩ := h
  exact Tanks.of_trod (by simpa [Value.cells] using hf)
end Go.Proofs.Ytlhpkpfnaepgbaa
