/- A desk, out of its reading. -/
import Derived.Test.YthnhckccmfjcmaaOpen
import Derived.Test.YthnhckccmfjcmaaDeskF
namespace Go.Proofs.Ythnhckccmfjcmaa
open Go.ChangeShapes Go.WideShapes Go.ChangeAt Go.RowKit Go.Joins

set_option maxRecDepth 100000 in
theorem open_desk {H : Type} {enc : TypeId × Value → H} {W : World} {base : Nat} {v : Value} {d : DataW H} {p : List MemPlace} (hv : Value.okWide Try.prog W .any base 33 v)
    (h : DataW.Trod enc Try.prog W 0 (fun _ => true) true 33 v d p) :
    ∃ aa n ca ab m cb S L k, v = .agg #[.slice aa n ca, .slice ab m cb, .int .i64 k] ∧ Ints W aa n ca S ∧ Ints W ab m cb L := by
  have cB : Try.prog.cellsOf 33 = 3 := by kernel_rfl
  have cV : Try.prog.cellsOf 31 = 2 := by kernel_rfl
  have cI : Try.prog.cellsOf 22 = 1 := by kernel_rfl
  have cK : Try.prog.cellsOf 3 = 1 := by kernel_rfl
  obtain ⟨cs, rfl, hsz⟩ := okWide_struct Try.underlying33 hv
  obtain ⟨v0, v1, v2, rfl⟩ := array3 (hsz.trans cB)
  obtain ⟨fuel, hf⟩ := h
  obtain ⟨y0, y1, n, _, _, h0, h1⟩ := trod_struct2 Try.underlying33 hf
  simp [Value.cells, cV, cK] at h0 h1
  obtain ⟨z0, z1, n2, _, _, g0, g1⟩ := trod_struct2 Try.underlying31 h0
  simp [cI] at g0 g1
  obtain ⟨aa, n, ca, S, rfl, i0⟩ := Ints.of_trod g0
  obtain ⟨ab, m, cb, L, rfl, i1⟩ := Ints.of_trod g1
  obtain ⟨k, e0, _, _⟩ := DataW.trod_int Try.underlying3 h1
  simp at e0
  exact ⟨aa, n, ca, ab, m, cb, S, L, k, by rw [e0], i0, i1⟩
end Go.Proofs.Ythnhckccmfjcmaa
