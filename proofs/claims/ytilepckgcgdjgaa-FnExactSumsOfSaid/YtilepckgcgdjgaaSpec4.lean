/- The model's functions of chapter 1: the amount of a move. -/
import Derived.Test.YtilepckgcgdjgaaSpec3
namespace Go.Proofs.Ytilepckgcgdjgaa
open Go.RowKit

theorem veAmount_any (w : World) (aa ab : Option Addr) (n m ca cb : Nat) (S H : List Int) (f t : Int) (h1 : Ints w aa n ca S) (h2 : Ints w ab m cb H) (hg : Good S H) (hmv : MoveOk S.length f t) :
    Calls Try.prog 50 #[.agg #[.slice aa n ca, .slice ab m cb], .agg #[.int .i64 f, .int .i64 t]] w fun e w' => e = .returned (.int .i64 (amt S H f t)) ∧ New w w' := by
  have HA := Lib.hid h1; clear h1
  have HB := Lib.hid h2; clear h2
  have hn := HA.out.len
  have hm := HB.out.len
  have hl := hg.1
  have hl2 := hg.2.1
  have p1 : n ≤ 5 := by omega
  have p2 : m ≤ 5 := by omega
  have HN := Lib.hid (And.intro hn (And.intro hm (And.intro hl hl2)))
  rcases hmv.parts with ⟨rfl, j, rfl, hj⟩ | ⟨rfl, i, rfl, hi⟩ | ⟨i, j, rfl, rfl, hi, hj, hij⟩
  · have q1 : j < n := by omega
    have q2 : j < m := by omega
    obtain ⟨v0, v1, v2, v3⟩ := hg.at hj
    obtain ⟨ba, oa, rfl, ga, la⟩ := HA.out.at q1
    obtain ⟨bb, ob, rfl, gb, lb⟩ := HB.out.at q2
    have HE := Lib.hid (amt_in S H j)
    clear hn hm hl hl2 hg hmv hj
    go_enter Try.func50, Try.ntmps50
    go_wp2
    go_quiet ((go_at_call 75; exact Calls.quiet_of_same ((l1Least_any _ _ _).mono fun e w' h => ⟨h.1, h.2.symm⟩)))
    go_wp2
    go_ret
    refine ⟨ret_int ?_, (by repeat (first | with_reducible exact New.refl _ | with_reducible assumption | refine New.drewN ?_ _ | refine New.drew ?_ | refine New.alloc ?_ _ | refine New.setCell ?_ (by first | omega | (simp; omega) | (simp; done)) _ | (refine New.trans ?_ (by assumption))))⟩
    rw [HE.out]
    omega
  · have q1 : i < m := by omega
    obtain ⟨v0, v1, v2, v3⟩ := hg.at hi
    obtain ⟨bb, ob, rfl, gb, lb⟩ := HB.out.at q1
    have HE := Lib.hid (amt_out S H i)
    clear hn hm hl hl2 hg hmv hi
    go_enter Try.func50, Try.ntmps50
    go_wp2
    go_ret
    exact ⟨ret_int HE.out.symm, (by repeat (first | with_reducible exact New.refl _ | with_reducible assumption | refine New.drewN ?_ _ | refine New.drew ?_ | refine New.alloc ?_ _ | refine New.setCell ?_ (by first | omega | (simp; omega) | (simp; done)) _ | (refine New.trans ?_ (by assumption))))⟩
  · have q1 : i < m := by omega
    have q2 : j < n := by omega
    have q3 : j < m := by omega
    obtain ⟨u0, u1, u2, u3⟩ := hg.at hi
    obtain ⟨v0, v1, v2, v3⟩ := hg.at hj
    obtain ⟨ba, oa, rfl, ga, la⟩ := HA.out.at q2
    obtain ⟨bb, ob, rfl, gb, lb⟩ := HB.out.at q3
    obtain ⟨bb', ob', e, gb', lb'⟩ := HB.out.at q1
    cases e
    have HE := Lib.hid (amt_mid S H i j)
    clear hn hm hl hl2 hg hmv hi hj hij
    go_enter Try.func50, Try.ntmps50
    go_wp2
    go_quiet ((go_at_call 75; exact Calls.quiet_of_same ((l1Least_any _ _ _).mono fun e w' h => ⟨h.1, h.2.symm⟩)))
    go_wp2
    go_ret
    refine ⟨ret_int ?_, (by repeat (first | with_reducible exact New.refl _ | with_reducible assumption | refine New.drewN ?_ _ | refine New.drew ?_ | refine New.alloc ?_ _ | refine New.setCell ?_ (by first | omega | (simp; omega) | (simp; done)) _ | (refine New.trans ?_ (by assumption))))⟩
    rw [HE.out]
end Go.Proofs.Ytilepckgcgdjgaa
