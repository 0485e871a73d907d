/- How many are reached, the model's. -/
import Derived.Test.YtilepckgcgdjgaaPlAll2
import Derived.Test.YtilepckgcgdjgaaLayers
namespace Go.Proofs.Ytilepckgcgdjgaa
open Go.RowKit

def countB (S H : List Int) (cl : Bool) : Bool := goodB S H && fewB S H cl 3000
def cntM (S H : List Int) (cl : Bool) : Int × Bool := if countB S H cl = true then (((endN S H cl 3000).length : Int), true) else (0, false)
theorem cntM_yes {S H : List Int} {cl : Bool} (h : countB S H cl = true) : cntM S H cl = (((endN S H cl 3000).length : Int), true) := by simp [cntM, h]
theorem cntM_no {S H : List Int} {cl : Bool} (h : countB S H cl = false) : cntM S H cl = (0, false) := by simp [cntM, h]
theorem Reach.low {w0 w1 w : World} {R base : Nat} {S : List Int} {L : List Node} {O : List Nat} {va vf vm vr vo : Value} {P Q : Nat → Value} (h : Reach w1 w R base S L O va vf vm vr vo P Q) (n : New w0 w1) : Reach w0 w R base S L O va vf vm vr vo P Q :=
  ⟨n.trans h.new, by have := n.size; have := h.lo; omega, h.box, h.ves, h.ord⟩
theorem own_slice' {w : World} {base : Nat} {e : TypeId} {size n : Nat} {v : Value} {xs : List Value} (h : w.ownsRow base e size v n xs) : ∃ ao cap, v = .slice ao n cap := by
  obtain ⟨_, h⟩ := h
  rcases h with ⟨rfl, rfl⟩ | ⟨g, cap, cur, rfl, _⟩
  · exact ⟨_, _, rfl⟩
  · exact ⟨_, _, rfl⟩
theorem ite_parts {c : Bool} {A B : Prop} (h : if c = true then A else B) : (c = true ∧ A) ∨ (c = false ∧ B) := by
  cases c
  · exact .inr ⟨rfl, by simpa using h⟩
  · exact .inl ⟨rfl, by simpa using h⟩
theorem ite_parts2 {c d : Bool} {A B : Prop} (h : if c = true ∧ d = true then A else B) : ((c && d) = true ∧ A) ∨ ((c && d) = false ∧ B) := by
  cases c <;> cases d
  · exact .inr ⟨rfl, by simpa using h⟩
  · exact .inr ⟨rfl, by simpa using h⟩
  · exact .inr ⟨rfl, by simpa using h⟩
  · exact .inl ⟨rfl, by simpa using h⟩
def PlRetG (w : World) (S H : List Int) (cl : Bool) (most : Nat) (e : Ending) (w' : World) : Prop :=
  New w w' ∧ if fewB S H cl most = true then ∃ R base O va vf vm vr vo P Q, e = .returned (.tuple #[.pointer (some ⟨R, 0, none⟩), .bool true]) ∧ Reach w w' R base S (endN S H cl most) O va vf vm vr vo P Q
    else ∃ R, e = .returned (.tuple #[.pointer (some ⟨R, 0, none⟩), .bool false])
theorem PlRetG.parts {w : World} {S H : List Int} {cl : Bool} {most : Nat} {e : Ending} {w' : World} (h : PlRetG w S H cl most e w') : New w w' ∧ ((fewB S H cl most = true ∧ ∃ E, E = endN S H cl most ∧ ∃ R base O va vf vm vr vo P Q, e = .returned (.tuple #[.pointer (some ⟨R, 0, none⟩), .bool true]) ∧ Reach w w' R base S E O va vf vm vr vo P Q) ∨
    (fewB S H cl most = false ∧ ∃ R, e = .returned (.tuple #[.pointer (some ⟨R, 0, none⟩), .bool false]))) := by
  rcases ite_parts h.2 with ⟨h1, h2⟩ | ⟨h1, h2⟩
  · exact ⟨h.1, .inl ⟨h1, _, rfl, h2⟩⟩
  · exact ⟨h.1, .inr ⟨h1, h2⟩⟩
theorem PlRet.parts {w : World} {S H : List Int} {cl : Bool} {e : Ending} {w' : World} (h : PlRet w S H cl e w') : New w w' ∧ ((fewB S H cl 3000 = true ∧ ∃ E, E = endN S H cl 3000 ∧ ∃ R base O va vf vm vr vo P Q, e = .returned (.tuple #[.pointer (some ⟨R, 0, none⟩), .bool true]) ∧ Reach w w' R base S E O va vf vm vr vo P Q) ∨
    (fewB S H cl 3000 = false ∧ ∃ R, e = .returned (.tuple #[.pointer (some ⟨R, 0, none⟩), .bool false]))) := PlRetG.parts (most := 3000) h
/-- What is asked: all that is found, or nothing. -/
def AskRet (w : World) (S H : List Int) (cl ok : Bool) (e : Ending) (w' : World) : Prop :=
  New w w' ∧ ((ok = true ∧ ∃ E, E = endN S H cl 3000 ∧ ∃ R base O va vf vm vr vo P Q, e = .returned (.tuple #[.pointer (some ⟨R, 0, none⟩), .bool true]) ∧ Reach w w' R base S E O va vf vm vr vo P Q) ∨
    (ok = false ∧ ∃ p, e = .returned (.tuple #[.pointer p, .bool false])))
set_option maxRecDepth 100000 in
theorem plAsked_any (w : World) (aa ab : Option Addr) (n m ca cb : Nat) (S H : List Int) (cl : Bool) (h1 : Ints w aa n ca S) (h2 : Ints w ab m cb H) :
    Calls Try.prog 33 #[.agg #[.slice aa n ca, .slice ab m cb], .bool cl] w (AskRet w S H cl (countB S H cl)) := by
  have HA := Lib.hid h1; clear h1
  have HB := Lib.hid h2; clear h2
  obtain ⟨cb', hcb⟩ : ∃ b, b = countB S H cl := ⟨_, rfl⟩
  rw [← hcb]
  by_cases hg : goodB S H = true
  · have HG := Lib.hid (goodB_iff.1 hg)
    have EB := Lib.hid (show cb' = fewB S H cl 3000 from by rw [hcb]; unfold countB; rw [hg, Bool.true_and])
    clear hcb
    go_enter Try.func33, Try.ntmps33
    go_wp2_with fail
    refine (veGood_any _ _ _ _ _ _ _ _ _ (HA.out.new (by repeat (first | with_reducible exact New.refl _ | with_reducible assumption | refine New.drewN ?_ _ | refine New.drew ?_ | refine New.alloc ?_ _ | refine New.setCell ?_ (by first | omega | (simp; omega) | (simp; done)) _ | (refine New.trans ?_ (by assumption))))) (HB.out.new (by repeat (first | with_reducible exact New.refl _ | with_reducible assumption | refine New.drewN ?_ _ | refine New.drew ?_ | refine New.alloc ?_ _ | refine New.setCell ?_ (by first | omega | (simp; omega) | (simp; done)) _ | (refine New.trans ?_ (by assumption)))))).mono ?_
    rintro e w1 ⟨rfl, n1⟩
    rw [hg]
    have a0 : w1.cell? ⟨w.heap.size, 0, none⟩ = some (.slice aa n ca) := n1.cell (by simp [go_sem])
    have a1 : w1.cell? ⟨w.heap.size, 1, none⟩ = some (.slice ab m cb) := n1.cell (by simp [go_sem])
    have N1 := Lib.hid (show New w w1 from New.trans (by repeat (first | with_reducible exact New.refl _ | with_reducible assumption | refine New.drewN ?_ _ | refine New.drew ?_ | refine New.alloc ?_ _ | refine New.setCell ?_ (by first | omega | (simp; omega) | (simp; done)) _ | (refine New.trans ?_ (by assumption)))) n1); clear n1
    go_wp2_with fail
    refine (plAll_any _ _ _ _ _ _ _ S H cl (HA.out.new (N1.out.trans (by repeat (first | with_reducible exact New.refl _ | with_reducible assumption | refine New.drewN ?_ _ | refine New.drew ?_ | refine New.alloc ?_ _ | refine New.setCell ?_ (by first | omega | (simp; omega) | (simp; done)) _ | (refine New.trans ?_ (by assumption)))))) (HB.out.new (N1.out.trans (by repeat (first | with_reducible exact New.refl _ | with_reducible assumption | refine New.drewN ?_ _ | refine New.drew ?_ | refine New.alloc ?_ _ | refine New.setCell ?_ (by first | omega | (simp; omega) | (simp; done)) _ | (refine New.trans ?_ (by assumption)))))) HG.out).mono ?_
    intro e w2 hp
    obtain ⟨n2, h2⟩ := hp.parts
    clear hp
    have N2 := Lib.hid (N1.out.trans n2)
    rcases h2 with ⟨hf, E, hE, R, base, O, va, vf, vm, vr, vo, P, Q, rfl, rc⟩ | ⟨hf, R, rfl⟩
    · have RC := Lib.hid (rc.low N1.out)
      have HF := Lib.hid hf
      have HE := Lib.hid hE
      clear rc n2 hf hE
      go_wp2
      go_ret2
      exact ⟨N2.out, .inl ⟨by rw [EB.out]; exact HF.out, E, HE.out, R, base, O, va, vf, vm, vr, vo, P, Q, rfl, RC.out⟩⟩
    · have HF := Lib.hid hf
      clear n2 hf
      go_wp2
      go_ret2
      exact ⟨N2.out, .inr ⟨by rw [EB.out]; exact HF.out, _, rfl⟩⟩
  · have hgf : goodB S H = false := by simpa using hg
    have EB := Lib.hid (show cb' = false from by rw [hcb]; unfold countB; rw [hgf, Bool.false_and])
    clear hcb
    go_enter Try.func33, Try.ntmps33
    go_wp2_with fail
    refine (veGood_any _ _ _ _ _ _ _ _ _ (HA.out.new (by repeat (first | with_reducible exact New.refl _ | with_reducible assumption | refine New.drewN ?_ _ | refine New.drew ?_ | refine New.alloc ?_ _ | refine New.setCell ?_ (by first | omega | (simp; omega) | (simp; done)) _ | (refine New.trans ?_ (by assumption))))) (HB.out.new (by repeat (first | with_reducible exact New.refl _ | with_reducible assumption | refine New.drewN ?_ _ | refine New.drew ?_ | refine New.alloc ?_ _ | refine New.setCell ?_ (by first | omega | (simp; omega) | (simp; done)) _ | (refine New.trans ?_ (by assumption)))))).mono ?_
    rintro e w1 ⟨rfl, n1⟩
    rw [hgf]
    have N1 := Lib.hid (show New w w1 from New.trans (by repeat (first | with_reducible exact New.refl _ | with_reducible assumption | refine New.drewN ?_ _ | refine New.drew ?_ | refine New.alloc ?_ _ | refine New.setCell ?_ (by first | omega | (simp; omega) | (simp; done)) _ | (refine New.trans ?_ (by assumption)))) n1); clear n1
    go_wp2
    go_ret2
    exact ⟨N1.out, .inr ⟨EB.out, _, rfl⟩⟩
end Go.Proofs.Ytilepckgcgdjgaa
