/- ParseVessels: what the row's list of variables gives the walks. -/
import Derived.Test.YtknjobpdbbjeoaaDoorLawParseVessels
import Derived.Test.YtknjobpdbbjeoaaDoorRows
import Derived.Stop.LaidErr
import Derived.LaidLaws
import Derived.LaidMore
import Derived.Lay
import Derived.HandedShaped
namespace Go.Proofs.YtknjobpdbbjeoaaDoor
open Go.RowKit

theorem pm_star : "*" ++ "errors.errorString" = "*errors.errorString" := by decide
theorem pm_row (u : TypeId) (h : Tryd.prog.typeName? 3 u = some "*errors.errorString") : u = 89 :=
  typeName_ptr_named (nm := "errors.errorString") (by rw [pm_star]; kernel_rfl) (by kernel_rfl) (by decide) u (by rw [pm_star]; exact h)
theorem pm_env {W : World} (h : laidMetH Tryd.prog Rows.fnExactParseVesselsRow.laid W) : PmEnv W := by
  rw [MakeChecks.laidMetH_plain _ _ _ (by kernel_rfl)] at h
  have h3 := h.tail.tail
  have h4 := h3.tail.tail
  have h5 := h4.tail
  obtain ⟨a, s, hv, _⟩ := laid_sentinel (g := 4) (n := "strconv.ErrRange") h4 (by kernel_rfl) (by kernel_rfl) Tryd.underlying50 pm_row Tryd.underlying89 Tryd.underlying91 rfl rfl Tryd.underlying9 (by kernel_rfl) (by kernel_rfl)
  obtain ⟨a2, s2, hv2, _⟩ := laid_sentinel (g := 3) (n := "strconv.ErrSyntax") h5 (by kernel_rfl) (by kernel_rfl) Tryd.underlying50 pm_row Tryd.underlying89 Tryd.underlying91 rfl rfl Tryd.underlying9 (by kernel_rfl) (by kernel_rfl)
  exact ⟨⟨_, _, hv2⟩, ⟨_, _, hv⟩, Lib.tabIs_of_head (g := 5) (t := 93) (e := 75) (n := 20) (by kernel_rfl) (by kernel_rfl) (by kernel_rfl) (by kernel_rfl) (by kernel_rfl) (by kernel_rfl) h3⟩
theorem pm_len {W : World} (h : W.ShapedOpen Tryd.prog) : ∃ m, W.cell? ⟨0, 0, none⟩ = some (.int .i64 m) := Tryd.laysM145.s1_3 W h

end Go.Proofs.YtknjobpdbbjeoaaDoor
