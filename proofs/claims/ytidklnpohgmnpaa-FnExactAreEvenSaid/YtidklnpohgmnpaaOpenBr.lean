/- What an argument of the struct type Brine is. -/
import Derived.Test.YtidklnpohgmnpaaOpen0
import Derived.Test.YtidklnpohgmnpaaRowOpenRatio
import Derived.Test.YtidklnpohgmnpaaBr
namespace Go.Proofs.Ytidklnpohgmnpaa
open Go.ChangeShapes Go.WideShapes Go.ChangeAt Go.RowKit Go.Joins

set_option maxRecDepth 100000 in
theorem open_brine {H : Type} {enc : TypeId × Value → H} {W : World} {base : Nat} {v : Value} {d : DataW H} {p : List MemPlace} (hv : Value.okWide Try.prog W .any base 33 v)
    (h : DataW.Trod enc Try.prog W 0 (fun _ => true) true 33 v d p) :
    ∃ aa n ca ab m cb ak r ck S L K, v = brV aa n ca ab m cb ak r ck ∧ Ints W aa n ca S ∧ Ints W ab m cb L ∧ Ratios W ak r ck K := by
  have cB : Try.prog.cellsOf 33 = 3 := by kernel_rfl
  have cV : Try.prog.cellsOf 30 = 2 := by kernel_rfl
  have cI : Try.prog.cellsOf 28 = 1 := by kernel_rfl
  have cK : Try.prog.cellsOf 31 = 1 := by kernel_rfl
  obtain ⟨cs, rfl, hsz⟩ := okWide_struct Try.underlying33 hv
  obtain ⟨v0, v1, v2, rfl⟩ := array3 (hsz.trans cB)
  obtain ⟨fuel, hf⟩ := h
  obtain ⟨y0, y1, n, _, _, h0, h1⟩ := trod_struct2 Try.underlying33 hf
  simp [Value.cells, cV, cK] at h0 h1
  obtain ⟨z0, z1, n2, _, _, g0, g1⟩ := trod_struct2 Try.underlying30 h0
  simp [cI] at g0 g1
  obtain ⟨aa, n, ca, S, rfl, i0⟩ := Ints.of_trod g0
  obtain ⟨ab, m', cb, L, rfl, i1⟩ := Ints.of_trod g1
  obtain ⟨ak, r, ck, K, rfl, i2⟩ := Ratios.of_trod h1
  exact ⟨aa, n, ca, ab, m', cb, ak, r, ck, S, L, K, rfl, i0, i1, i2⟩
end Go.Proofs.Ytidklnpohgmnpaa
