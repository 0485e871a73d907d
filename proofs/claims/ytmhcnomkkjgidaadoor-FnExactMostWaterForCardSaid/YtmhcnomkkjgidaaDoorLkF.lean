/- What a flight is: the model's, the program's. -/
import Derived.Test.YtmhcnomkkjgidaaDoorLk
import Derived.Test.YtmhcnomkkjgidaaDoorWithin
namespace Go.Proofs.YtmhcnomkkjgidaaDoor
open Go.RowKit

theorem fliB_len {L : List Int} {F : List Bool} {n : Nat} (hn : n = L.length) (h : inB 1 6 (n : Int) = false) : fliB L F = false := by unfold fliB; rw [← hn, h]; rfl
theorem fliB_full {L : List Int} {F : List Bool} (h : ¬ F.length = L.length) : fliB L F = false := by unfold fliB; rw [decide_eq_false h]; simp
theorem fliB_rest {L : List Int} {F : List Bool} {n m : Nat} (hn : n = L.length) (hm : m = F.length) (h1 : inB 1 6 (n : Int) = true) (h2 : m = n) : fliB L F = allB 1 20 L := by
  unfold fliB
  rw [← hn, ← hm, h1, h2]
  simp

set_option maxRecDepth 100000 in
theorem sGood_any (w : World) (aa ab : Option Addr) (n m ca cb : Nat) (L : List Int) (F : List Bool) (h1 : Ints w aa n ca L) (h2 : Bools w ab m cb F) :
    Calls Tryd.prog 58 #[.agg #[.slice aa n ca, .slice ab m cb]] w fun e w' => e = .returned (.bool (fliB L F)) ∧ New w w' := by
  have HA := Lib.hid h1; clear h1
  have HB := Lib.hid h2; clear h2
  have hm1 := HA.out.2.2.1
  have hm2 := HB.out.2.2.1
  by_cases hn : 1 ≤ n ∧ n ≤ 6
  · have b1 : inB 1 6 (n : Int) = true := inB_iff.2 (by omega)
    by_cases hmn : m = n
    · have R := Lib.hid (fliB_rest (F := F) HA.out.len HB.out.len b1 hmn)
      subst hmn
      go_enter Tryd.func58, Tryd.ntmps58
      go_wp2_with fail
      refine (l1In_any _ _ _ _).mono ?_
      rintro e w' ⟨rfl, rfl⟩
      go_wp2_with fail
      refine (l1All_any _ _ _ _ L _ _ (HA.out.new (by repeat (first | with_reducible exact New.refl _ | with_reducible assumption | refine New.drewN ?_ _ | refine New.drew ?_ | refine New.alloc ?_ _ | refine New.setCell ?_ (by first | omega | (simp; omega) | (simp; done)) _ | (refine New.trans ?_ (by assumption)))))).mono ?_
      rintro e w' ⟨rfl, rfl⟩
      go_wp2
      go_ret
      exact ⟨ret_bool R.out.symm, (by repeat (first | with_reducible exact New.refl _ | with_reducible assumption | refine New.drewN ?_ _ | refine New.drew ?_ | refine New.alloc ?_ _ | refine New.setCell ?_ (by first | omega | (simp; omega) | (simp; done)) _ | (refine New.trans ?_ (by assumption))))⟩
    · have R := Lib.hid (fliB_full (L := L) (F := F) (by have := HA.out.len; have := HB.out.len; omega))
      have hmn' : ((m : Int) == (n : Int)) = false := by simpa using (fun h : (m : Int) = n => hmn (by omega))
      go_enter Tryd.func58, Tryd.ntmps58
      go_wp2_with fail
      refine (l1In_any _ _ _ _).mono ?_
      rintro e w' ⟨rfl, rfl⟩
      go_wp2
      go_ret
      exact ⟨ret_bool R.out.symm, (by repeat (first | with_reducible exact New.refl _ | with_reducible assumption | refine New.drewN ?_ _ | refine New.drew ?_ | refine New.alloc ?_ _ | refine New.setCell ?_ (by first | omega | (simp; omega) | (simp; done)) _ | (refine New.trans ?_ (by assumption))))⟩
  · have b1 : inB 1 6 (n : Int) = false := inB_false.2 (by omega)
    have R := Lib.hid (fliB_len (F := F) HA.out.len b1)
    go_enter Tryd.func58, Tryd.ntmps58
    go_wp2_with fail
    refine (l1In_any _ _ _ _).mono ?_
    rintro e w' ⟨rfl, rfl⟩
    go_wp2
    go_ret
    exact ⟨ret_bool R.out.symm, (by repeat (first | with_reducible exact New.refl _ | with_reducible assumption | refine New.drewN ?_ _ | refine New.drew ?_ | refine New.alloc ?_ _ | refine New.setCell ?_ (by first | omega | (simp; omega) | (simp; done)) _ | (refine New.trans ?_ (by assumption))))⟩

set_option maxRecDepth 100000 in
theorem iIsFlight_any (w : World) (aa ab : Option Addr) (n m ca cb : Nat) (L : List Int) (F : List Bool) (h1 : Ints w aa n ca L) (h2 : Bools w ab m cb F) :
    Calls Tryd.prog 62 #[.agg #[.slice aa n ca, .slice ab m cb]] w fun e w' => e = .returned (.bool (fliB L F)) ∧ New w w' := by
  have HA := Lib.hid h1; clear h1
  have HB := Lib.hid h2; clear h2
  have hm1 := HA.out.2.2.1
  have hm2 := HB.out.2.2.1
  by_cases hn : 1 ≤ n ∧ n ≤ 6
  · have b1 : inB 1 6 (n : Int) = true := inB_iff.2 (by omega)
    by_cases hmn : m = n
    · have R := Lib.hid (fliB_rest (F := F) HA.out.len HB.out.len b1 hmn)
      subst hmn
      have g1 : (1 : Int) ≤ (m : Int) := by omega
      have g2 : (m : Int) ≤ 6 := by omega
      clear b1
      go_enter Tryd.func62, Tryd.ntmps62
      go_wp2_with fail
      refine (areWithin_any _ _ _ _ L _ _ (HA.out.new (by repeat (first | with_reducible exact New.refl _ | with_reducible assumption | refine New.drewN ?_ _ | refine New.drew ?_ | refine New.alloc ?_ _ | refine New.setCell ?_ (by first | omega | (simp; omega) | (simp; done)) _ | (refine New.trans ?_ (by assumption)))))).mono ?_
      rintro e w' ⟨rfl, rfl⟩
      go_wp2
      go_ret
      exact ⟨ret_bool R.out.symm, (by repeat (first | with_reducible exact New.refl _ | with_reducible assumption | refine New.drewN ?_ _ | refine New.drew ?_ | refine New.alloc ?_ _ | refine New.setCell ?_ (by first | omega | (simp; omega) | (simp; done)) _ | (refine New.trans ?_ (by assumption))))⟩
    · have R := Lib.hid (fliB_full (L := L) (F := F) (by have := HA.out.len; have := HB.out.len; omega))
      have hmn' : ((m : Int) == (n : Int)) = false := by simpa using (fun h : (m : Int) = n => hmn (by omega))
      have g1 : (1 : Int) ≤ (n : Int) := by omega
      have g2 : (n : Int) ≤ 6 := by omega
      clear b1
      go_enter Tryd.func62, Tryd.ntmps62
      go_wp2
      go_ret
      exact ⟨ret_bool R.out.symm, (by repeat (first | with_reducible exact New.refl _ | with_reducible assumption | refine New.drewN ?_ _ | refine New.drew ?_ | refine New.alloc ?_ _ | refine New.setCell ?_ (by first | omega | (simp; omega) | (simp; done)) _ | (refine New.trans ?_ (by assumption))))⟩
  · have b1 : inB 1 6 (n : Int) = false := inB_false.2 (by omega)
    have R := Lib.hid (fliB_len (F := F) HA.out.len b1)
    clear b1
    by_cases g1 : (1 : Int) ≤ (n : Int)
    · have g2 : ¬ (n : Int) ≤ 6 := by omega
      go_enter Tryd.func62, Tryd.ntmps62
      go_wp2
      go_ret
      exact ⟨ret_bool R.out.symm, (by repeat (first | with_reducible exact New.refl _ | with_reducible assumption | refine New.drewN ?_ _ | refine New.drew ?_ | refine New.alloc ?_ _ | refine New.setCell ?_ (by first | omega | (simp; omega) | (simp; done)) _ | (refine New.trans ?_ (by assumption))))⟩
    · go_enter Tryd.func62, Tryd.ntmps62
      go_wp2
      go_ret
      exact ⟨ret_bool R.out.symm, (by repeat (first | with_reducible exact New.refl _ | with_reducible assumption | refine New.drewN ?_ _ | refine New.drew ?_ | refine New.alloc ?_ _ | refine New.setCell ?_ (by first | omega | (simp; omega) | (simp; done)) _ | (refine New.trans ?_ (by assumption))))⟩

def floB (L : List Int) (F : List Bool) (i : Int) : Bool := fliB L F && inB 0 ((L.length : Int) - 1) i
theorem floB_iff {L : List Int} {F : List Bool} {i : Int} : floB L F i = true ↔ fliB L F = true ∧ ∃ k : Nat, i = k ∧ k < L.length := by
  unfold floB
  rw [Bool.and_eq_true, inB_iff]
  constructor
  · rintro ⟨h, h0, h1⟩
    exact ⟨h, i.toNat, by omega, by omega⟩
  · rintro ⟨h, k, rfl, h1⟩
    exact ⟨h, by omega, by omega⟩
end Go.Proofs.YtmhcnomkkjgidaaDoor
