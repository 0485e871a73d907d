/- Maps from four levels to numbers, made by a call. -/
import Derived.Test.YtafiihhiipfejaaChSt
import Derived.Test.YtafiihhiipfejaaOpen0
import Derived.Maps.OwnOps
import Derived.Maps.OwnSet
import Derived.Maps.RangeWalk
import Derived.Maps.Views
import Derived.DeepKeys4
namespace Go.Proofs.Ytafiihhiipfejaa
open Go.RowKit Go.Maps

abbrev fourC (L : List (Int × Bool)) : List Value := [.int .i64 (lvAt L 0).1, .bool (lvAt L 0).2, .int .i64 (lvAt L 1).1, .bool (lvAt L 1).2, .int .i64 (lvAt L 2).1, .bool (lvAt L 2).2, .int .i64 (lvAt L 3).1, .bool (lvAt L 3).2]
abbrev fourV (L : List (Int × Bool)) : Value := .agg #[.int .i64 (lvAt L 0).1, .bool (lvAt L 0).2, .int .i64 (lvAt L 1).1, .bool (lvAt L 1).2, .int .i64 (lvAt L 2).1, .bool (lvAt L 2).2, .int .i64 (lvAt L 3).1, .bool (lvAt L 3).2]
theorem chLaw : Keyed Try.prog 62 := Keyed.of_law (deep_law_laid laidOut (m := 4) (by omega) (of_decide_eq_true (by kernel_rfl)) (by kernel_rfl) (by kernel_rfl))
theorem sizeTypes : ∃ m, Try.prog.types.size = m + 3 := ⟨Try.prog.types.size - 3, by
  have : 3 < Try.prog.types.size := of_decide_eq_true (by kernel_rfl)
  omega⟩
theorem lits_int (d : Nat) (n : Int) (hw : (Lit.int .i64 n).wf = true) : Try.prog.keyLits (d + 1) 3 [.int .i64 n] = some [.int .i64 n] := by
  unfold Program.keyLits
  rw [Try.underlying3]
  simp [hw]
theorem lits_bool (d : Nat) (b : Bool) : Try.prog.keyLits (d + 1) 4 [.bool b] = some [.bool b] := by
  unfold Program.keyLits
  rw [Try.underlying4]
theorem lits_level (d : Nat) (n : Int) (b : Bool) (hw : (Lit.int .i64 n).wf = true) : Try.prog.keyLits (d + 1 + 1) 55 [.int .i64 n, .bool b] = some [.int .i64 n, .bool b] := by
  have c1 : Try.prog.cellsOf 55 = 2 := by kernel_rfl
  have c2 : Try.prog.cellsOf 3 = 1 := by kernel_rfl
  have c3 : Try.prog.cellsOf 4 = 1 := by kernel_rfl
  unfold Program.keyLits
  rw [Try.underlying55]
  simp [c1, c2, c3, lits_int, lits_bool, hw]
theorem keyOf_four (L : List (Int × Bool)) (h : ∀ i, 0 ≤ (lvAt L i).1 ∧ (lvAt L i).1 ≤ 60) : ∃ l, keyOf Try.prog 62 (fourV L) = some l := by
  obtain ⟨m, hm⟩ := sizeTypes
  have wf : ∀ i, (Lit.int .i64 (lvAt L i).1).wf = true := fun i => WalkArith.wf_i64 (by have := h i; omega)
  have hk : Try.prog.keyType 62 = true := by kernel_rfl
  have c0 : Try.prog.cellsOf 62 = 8 := by kernel_rfl
  have c1 : Try.prog.cellsOf 55 = 2 := by kernel_rfl
  have hf : (fourV L).formed Try.prog 62 = true := by
    simp [Value.formed, Try.underlying62, c0]
  have hl : Try.prog.keyLits (Try.prog.types.size + 1) 62 (fourV L).cells.toList = some [.int .i64 (lvAt L 0).1, .bool (lvAt L 0).2, .int .i64 (lvAt L 1).1, .bool (lvAt L 1).2, .int .i64 (lvAt L 2).1, .bool (lvAt L 2).2, .int .i64 (lvAt L 3).1, .bool (lvAt L 3).2] := by
    rw [hm]
    unfold Program.keyLits
    rw [Try.underlying62]
    simp only [c0, c1]
    simp [Value.cells, List.range_succ, lits_level, wf]
  unfold keyOf
  rw [Try.underlying62]
  simp only [hk, hf, Bool.and_self, if_true, hl, Option.map_some]
  exact ⟨_, rfl⟩
end Go.Proofs.Ytafiihhiipfejaa
