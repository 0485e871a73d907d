/- How many are reached, the program's. -/
import Derived.Test.YtjailklnagfglaaReached
import Derived.Test.YtjailklnagfglaaCountS
namespace Go.Proofs.Ytjailklnagfglaa
open Go.RowKit Go.Maps

theorem ReRet.partsG {kf : List Int → Lit} {w : World} {sv : Value} {S H : List Int} {cl : Bool} {most : Nat} {e : Ending} {w' : World} (h : ReRet kf w sv S H cl most e w') : New w w' ∧ (((goodB S H && fewB S H cl most) = true ∧ ∃ E, E = endN S H cl most ∧ ∃ base mb vp vl P St, e = .returned (.tuple #[.agg #[sv, vp, vl, .map (some mb)], .bool true]) ∧ FoundV kf w w' base mb E vp vl (layN E) P St) ∨
    ((goodB S H && fewB S H cl most) = false ∧ e = .returned (.tuple #[noneS, .bool false]))) := by
  rcases ite_parts2 h.2 with ⟨h1, h2⟩ | ⟨h1, h2⟩
  · exact ⟨h.1, .inl ⟨h1, _, rfl, h2⟩⟩
  · exact ⟨h.1, .inr ⟨h1, h2⟩⟩
theorem ReRet.parts {kf : List Int → Lit} {w : World} {sv : Value} {S H : List Int} {cl : Bool} {e : Ending} {w' : World} (h : ReRet kf w sv S H cl 3000 e w') : New w w' ∧ ((countB S H cl = true ∧ ∃ E, E = endN S H cl 3000 ∧ ∃ base mb vp vl P St, e = .returned (.tuple #[.agg #[sv, vp, vl, .map (some mb)], .bool true]) ∧ FoundV kf w w' base mb E vp vl (layN E) P St) ∨
    (countB S H cl = false ∧ e = .returned (.tuple #[noneS, .bool false]))) := ReRet.partsG (most := 3000) h

set_option maxRecDepth 100000 in
theorem iCountStates_any (w : World) (aa ab : Option Addr) (n m ca cb : Nat) (S H : List Int) (cl : Bool) (h1 : Ints w aa n ca S) (h2 : Ints w ab m cb H) :
    Calls Try.prog 13 #[.agg #[.slice aa n ca, .slice ab m cb], .bool cl] w fun e w' => e = .returned (.tuple #[.int .i64 (cntM S H cl).1, .bool (cntM S H cl).2]) ∧ New w w' := by
  obtain ⟨kf, KF⟩ := keyH_ex
  have HA := Lib.hid h1; clear h1
  have HB := Lib.hid h2; clear h2
  obtain ⟨z, hz⟩ : ∃ z, z = cntM S H cl := ⟨_, rfl⟩
  rw [← hz]
  have HZ := Lib.hid hz; clear hz
  go_enter Try.func13, Try.ntmps13
  go_wp2_with fail
  refine (reachedFrom_any kf KF _ _ _ _ _ _ _ S H cl 3000 (HA.out.new (by repeat (first | with_reducible exact New.refl _ | with_reducible assumption | refine New.drewN ?_ _ | refine New.drew ?_ | refine New.alloc ?_ _ | refine New.setCell ?_ (by first | omega | (simp; omega) | (simp; done)) _ | (refine New.trans ?_ (by assumption))))) (HB.out.new (by repeat (first | with_reducible exact New.refl _ | with_reducible assumption | refine New.drewN ?_ _ | refine New.drew ?_ | refine New.alloc ?_ _ | refine New.setCell ?_ (by first | omega | (simp; omega) | (simp; done)) _ | (refine New.trans ?_ (by assumption))))) (by omega) (by omega)).mono ?_
  intro e w1 hp
  obtain ⟨n1, h⟩ := hp.parts
  clear hp
  have N1 := Lib.hid (show New w w1 from New.trans (by repeat (first | with_reducible exact New.refl _ | with_reducible assumption | refine New.drewN ?_ _ | refine New.drew ?_ | refine New.alloc ?_ _ | refine New.setCell ?_ (by first | omega | (simp; omega) | (simp; done)) _ | (refine New.trans ?_ (by assumption)))) n1); clear n1
  rcases h with ⟨hc, E, hE, base, mb, vp, vl, P, St, rfl, fv⟩ | ⟨hc, rfl⟩
  · have ZE := Lib.hid (show z = ((E.length : Int), true) from by rw [HZ.out, cntM_yes hc, hE])
    clear hE hc
    obtain ⟨ao, cap, hv⟩ := own_slice fv.places
    subst hv
    obtain ⟨al, capl, hvl⟩ := own_slice fv.layers
    subst hvl
    clear fv
    go_wp2
    go_ret2
    rw [ZE.out]
    exact ⟨rfl, N1.out.alloc _⟩
  · have ZE := Lib.hid (show z = (0, false) from by rw [HZ.out, cntM_no hc])
    clear hc
    unfold noneS
    go_wp2
    go_ret2
    rw [ZE.out]
    exact ⟨rfl, N1.out.alloc _⟩
end Go.Proofs.Ytjailklnagfglaa
