/- HeldInRow: the model's and the program's. -/
import Derived.Test.YtchnnbkaiagpgaaSt1
import Derived.Test.YtchnnbkaiagpgaaWeT
namespace Go.Proofs.Ytchnnbkaiagpgaa
open Go.RowKit

def hiM (l : List (Int × Int × Int)) : Int := if rowB l then heldS l else 0
theorem sum_row' (w : World) (l : List (Int × Int × Int)) (hl : RowOk l) : Calls Try.prog 57 #[rowV l] w fun e w' => e = .returned (.int .i64 (heldS l)) ∧ New w w' := by
  have hb : ∀ k, k ≤ 6 → 0 ≤ heldA (basA l) k ∧ heldA (basA l) k ≤ 1000000 := by
    intro k hk
    rw [heldA_eq]
    by_cases h : k ≤ l.length
    · have := heldK_bd hl k h
      omega
    · rw [heldK_past l k (by omega)]
      have := heldK_bd hl l.length (Nat.le_refl _)
      have := hl.2.1
      omega
  have h := sum_any w (basA l) l.length hb
  rw [heldA_eq, heldK_past l 6 hl.2.1] at h
  exact h

theorem sHeldInRow_any (w : World) (aa : Option Addr) (n ca : Nat) (l : List (Int × Int × Int)) (ha : Basins w aa n ca l) :
    Calls Try.prog 37 #[.slice aa n ca] w fun e w' => e = .returned (.tuple #[.int .i64 (hiM l), .bool (rowB l)]) ∧ New w w' := by
  have HA := Lib.hid ha; clear ha
  by_cases h : rowB l = true
  · have HM := Lib.hid (show hiM l = heldS l by unfold hiM; rw [if_pos h])
    have HL := Lib.hid (rowB_iff.1 h)
    have HB := Lib.hid h
    go_enter Try.func37, Try.ntmps37
    go_wp2_with fail
    refine (weRow_any _ _ _ _ l HA.out).mono ?_
    rintro e w1 ⟨rfl, n1⟩
    have N1 := Lib.hid n1; clear n1
    go_wp2_with fail
    refine (weHeld_any _ _ _ _ l (HA.out.new N1.out) HL.out).mono ?_
    rintro e w2 ⟨rfl, n2⟩
    go_wp2_with fail
    go_ret2
    exact ⟨by rw [HM.out, HB.out]; rfl, N1.out.trans n2⟩
  · have hf := bool_no h
    have HM := Lib.hid (show hiM l = 0 by unfold hiM; rw [hf]; rfl)
    have HB := Lib.hid hf
    go_enter Try.func37, Try.ntmps37
    go_wp2_with fail
    refine (weRow_any _ _ _ _ l HA.out).mono ?_
    rintro e w1 ⟨rfl, n1⟩
    go_wp2_with fail
    go_ret2
    exact ⟨by rw [HM.out, HB.out]; rfl, n1⟩

theorem iHeldInRow_any (w : World) (aa : Option Addr) (n ca : Nat) (l : List (Int × Int × Int)) (ha : Basins w aa n ca l) :
    Calls Try.prog 23 #[.slice aa n ca] w fun e w' => e = .returned (.tuple #[.int .i64 (hiM l), .bool (rowB l)]) ∧ New w w' := by
  have HN := Lib.hid ha.1
  have HA := Lib.hid ha; clear ha
  by_cases h : rowB l = true
  · have HM := Lib.hid (show hiM l = heldS l by unfold hiM; rw [if_pos h])
    have HL := Lib.hid (rowB_iff.1 h)
    have HB := Lib.hid h
    have r1 : 1 ≤ n := by have := HL.out.1; have := HN.out; omega
    have r6 : n ≤ 6 := by have := HL.out.2.1; have := HN.out; omega
    go_enter Try.func23, Try.ntmps23
    go_wp2_with fail
    refine (iIsRow_any _ _ _ _ l HA.out).mono ?_
    rintro e w1 ⟨rfl, n1⟩
    have N1 := Lib.hid n1; clear n1
    go_wp2_with fail
    refine (stateOf_any _ _ _ _ l (HA.out.new N1.out) r1 r6).mono ?_
    rintro e w2 ⟨rfl, n2⟩
    have N2 := Lib.hid (N1.out.trans n2); clear n2
    go_wp2_with fail
    refine (sum_row' _ l HL.out).mono ?_
    rintro e w3 ⟨rfl, n3⟩
    go_wp2_with fail
    go_ret2
    exact ⟨by rw [HM.out, HB.out]; rfl, N2.out.trans n3⟩
  · have hf := bool_no h
    have HM := Lib.hid (show hiM l = 0 by unfold hiM; rw [hf]; rfl)
    have HB := Lib.hid hf
    go_enter Try.func23, Try.ntmps23
    go_wp2_with fail
    refine (iIsRow_any _ _ _ _ l HA.out).mono ?_
    rintro e w1 ⟨rfl, n1⟩
    go_wp2_with fail
    go_ret2
    exact ⟨by rw [HM.out, HB.out]; rfl, n1⟩
end Go.Proofs.Ytchnnbkaiagpgaa
