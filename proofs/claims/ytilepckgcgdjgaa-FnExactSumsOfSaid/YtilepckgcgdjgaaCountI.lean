/- How many are reached, the program's. -/
import Derived.Test.YtilepckgcgdjgaaReached
import Derived.Test.YtilepckgcgdjgaaCountS
namespace Go.Proofs.Ytilepckgcgdjgaa
open Go.RowKit Go.Maps

theorem ReRet.partsG {kf : List Int → Lit} {w : World} {sv : Value} {S H : List Int} {cl : Bool} {most : Nat} {e : Ending} {w' : World} (h : ReRet kf w sv S H cl most e w') : New w w' ∧ (((goodB S H && fewB S H cl most) = true ∧ ∃ E, E = endN S H cl most ∧ ∃ base mb vp vl P St, e = .returned (.tuple #[.agg #[sv, vp, vl, .map (some mb)], .bool true]) ∧ FoundV kf w w' base mb E vp vl (layN E) P St) ∨
    ((goodB S H && fewB S H cl most) = false ∧ e = .returned (.tuple #[noneS, .bool false]))) := by
  rcases ite_parts2 h.2 with ⟨h1, h2⟩ | ⟨h1, h2⟩
  · exact ⟨h.1, .inl ⟨h1, _, rfl, h2⟩⟩
  · exact ⟨h.1, .inr ⟨h1, h2⟩⟩
theorem ReRet.parts {kf : List Int → Lit} {w : World} {sv : Value} {S H : List Int} {cl : Bool} {e : Ending} {w' : World} (h : ReRet kf w sv S H cl 3000 e w') : New w w' ∧ ((countB S H cl = true ∧ ∃ E, E = endN S H cl 3000 ∧ ∃ base mb vp vl P St, e = .returned (.tuple #[.agg #[sv, vp, vl, .map (some mb)], .bool true]) ∧ FoundV kf w w' base mb E vp vl (layN E) P St) ∨
    (countB S H cl = false ∧ e = .returned (.tuple #[noneS, .bool false]))) := ReRet.partsG (most := 3000) h
end Go.Proofs.Ytilepckgcgdjgaa
