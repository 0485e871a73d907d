/- DivisorOf, the model's and the program's. -/
import Derived.Test.YtkonhflamnekcabGcdI
import Derived.Test.YtkonhflamnekcabImpl3
namespace Go.Proofs.Ytkonhflamnekcab
open Go.RowKit

def divM (S H : List Int) : Int × Bool := if goodB S H = true then ((cdV S H : Int), true) else (0, false)

theorem iDivisorOf_any (w : World) (aa ab : Option Addr) (n m ca cb : Nat) (S H : List Int) (h1 : Ints w aa n ca S) (h2 : Ints w ab m cb H) :
    Calls Try.prog 47 #[.agg #[.slice aa n ca, .slice ab m cb]] w fun e w' => e = .returned (.tuple #[.int .i64 (divM S H).1, .bool (divM S H).2]) ∧ New w w' := by
  have HA := Lib.hid h1; clear h1
  have HB := Lib.hid h2; clear h2
  by_cases hg : goodB S H = true
  · have hG := goodB_iff.1 hg
    have HGG := Lib.hid hG; clear hG
    go_enter Try.func47, Try.ntmps47
    go_wp2_with fail
    refine (iAreVessels_any _ _ _ _ _ _ _ _ _ (HA.out.new (by repeat (first | with_reducible exact New.refl _ | with_reducible assumption | refine New.drewN ?_ _ | refine New.drew ?_ | refine New.alloc ?_ _ | refine New.setCell ?_ (by first | omega | (simp; omega) | (simp; done)) _ | (refine New.trans ?_ (by assumption))))) (HB.out.new (by repeat (first | with_reducible exact New.refl _ | with_reducible assumption | refine New.drewN ?_ _ | refine New.drew ?_ | refine New.alloc ?_ _ | refine New.setCell ?_ (by first | omega | (simp; omega) | (simp; done)) _ | (refine New.trans ?_ (by assumption)))))).mono ?_
    rintro e w1 ⟨rfl, n1⟩
    have a0 : w1.cell? ⟨w.heap.size, 0, none⟩ = some (.slice aa n ca) := n1.cell (by simp [go_sem])
    have a1 : w1.cell? ⟨w.heap.size, 1, none⟩ = some (.slice ab m cb) := n1.cell (by simp [go_sem])
    have N1 := Lib.hid (show New w w1 from New.trans (by repeat (first | with_reducible exact New.refl _ | with_reducible assumption | refine New.drewN ?_ _ | refine New.drew ?_ | refine New.alloc ?_ _ | refine New.setCell ?_ (by first | omega | (simp; omega) | (simp; done)) _ | (refine New.trans ?_ (by assumption)))) n1); clear n1
    go_wp2_with fail
    refine (commonDivisor_any _ _ _ _ _ _ _ S H (HA.out.new N1.out) (HB.out.new N1.out) HGG.out).mono ?_
    rintro e w2 ⟨rfl, n2⟩
    go_wp2
    go_ret2
    exact ⟨ret_pair (by simp [divM, hg]), N1.out.trans n2⟩
  · have hg' : goodB S H = false := by simpa using hg
    go_enter Try.func47, Try.ntmps47
    go_wp2_with fail
    refine (iAreVessels_any _ _ _ _ _ _ _ _ _ (HA.out.new (by repeat (first | with_reducible exact New.refl _ | with_reducible assumption | refine New.drewN ?_ _ | refine New.drew ?_ | refine New.alloc ?_ _ | refine New.setCell ?_ (by first | omega | (simp; omega) | (simp; done)) _ | (refine New.trans ?_ (by assumption))))) (HB.out.new (by repeat (first | with_reducible exact New.refl _ | with_reducible assumption | refine New.drewN ?_ _ | refine New.drew ?_ | refine New.alloc ?_ _ | refine New.setCell ?_ (by first | omega | (simp; omega) | (simp; done)) _ | (refine New.trans ?_ (by assumption)))))).mono ?_
    rintro e w1 ⟨rfl, n1⟩
    go_wp2
    go_ret2
    exact ⟨ret_pair (by simp [divM, hg']), New.trans (by repeat (first | with_reducible exact New.refl _ | with_reducible assumption | refine New.drewN ?_ _ | refine New.drew ?_ | refine New.alloc ?_ _ | refine New.setCell ?_ (by first | omega | (simp; omega) | (simp; done)) _ | (refine New.trans ?_ (by assumption)))) n1⟩

theorem sDivisorOf_any (w : World) (aa ab : Option Addr) (n m ca cb : Nat) (S H : List Int) (h1 : Ints w aa n ca S) (h2 : Ints w ab m cb H) :
    Calls Try.prog 46 #[.agg #[.slice aa n ca, .slice ab m cb]] w fun e w' => e = .returned (.tuple #[.int .i64 (divM S H).1, .bool (divM S H).2]) ∧ New w w' := by
  have HA := Lib.hid h1; clear h1
  have HB := Lib.hid h2; clear h2
  by_cases hg : goodB S H = true
  · have hG := goodB_iff.1 hg
    have hn := HA.out.len
    have hm := HB.out.len
    have q5 : n ≤ 5 := by have := hG.1; omega
    have hmn : m ≤ n ∧ n ≤ m := by have := hG.2.1; omega
    obtain ⟨hm1, hm2⟩ := hmn
    have HN := Lib.hid (And.intro hn hm); clear hn hm
    have HG := Lib.hid hG; clear hG
    go_enter Try.func46, Try.ntmps46
    go_wp2_with fail
    refine (veGood_any _ _ _ _ _ _ _ _ _ (HA.out.new (by repeat (first | with_reducible exact New.refl _ | with_reducible assumption | refine New.drewN ?_ _ | refine New.drew ?_ | refine New.alloc ?_ _ | refine New.setCell ?_ (by first | omega | (simp; omega) | (simp; done)) _ | (refine New.trans ?_ (by assumption))))) (HB.out.new (by repeat (first | with_reducible exact New.refl _ | with_reducible assumption | refine New.drewN ?_ _ | refine New.drew ?_ | refine New.alloc ?_ _ | refine New.setCell ?_ (by first | omega | (simp; omega) | (simp; done)) _ | (refine New.trans ?_ (by assumption)))))).mono ?_
    rintro e w1 ⟨rfl, n1⟩
    have a0 : w1.cell? ⟨w.heap.size, 0, none⟩ = some (.slice aa n ca) := n1.cell (by simp [go_sem])
    have a1 : w1.cell? ⟨w.heap.size, 1, none⟩ = some (.slice ab m cb) := n1.cell (by simp [go_sem])
    have N1 := Lib.hid (show New w w1 from New.trans (by repeat (first | with_reducible exact New.refl _ | with_reducible assumption | refine New.drewN ?_ _ | refine New.drew ?_ | refine New.alloc ?_ _ | refine New.setCell ?_ (by first | omega | (simp; omega) | (simp; done)) _ | (refine New.trans ?_ (by assumption)))) n1); clear n1
    go_wp2
    go_loopw [4, 13] (fun d i wr => ∃ k : Nat, k ≤ n ∧ i = .int .i64 k ∧ d = .int .i64 (cdK S H k : Nat) ∧ New w wr ∧ wr.cell? ⟨w.heap.size, 0, none⟩ = some (.slice aa n ca) ∧ wr.cell? ⟨w.heap.size, 1, none⟩ = some (.slice ab m cb)) (fun _ i _ => n - (intOf i).toNat)
    case atStart => exact ⟨0, Nat.zero_le _, rfl, rfl, N1.out, a0, a1⟩
    case round =>
      obtain ⟨k, hk, rfl, rfl, hnw, a0, a1⟩ := hrel
      have NW := Lib.hid hnw; clear hnw
      by_cases hlt : k < n
      · have hlt2 : k < m := by omega
        obtain ⟨s, h, es, eh, b1, b2, b3⟩ := HG.out.nats (show k < S.length by have := HN.out.1; omega)
        have b4 := (cdK_bd HG.out (show k ≤ S.length by have := HN.out.1; omega)).1
        have b5 := gcd3 (c := cdK S H k) (h := h) b1 b2
        have b6 : Nat.gcd (cdK S H k) s ≤ 1000 := by omega
        clear b5
        obtain ⟨ba, oa, rfl, gc, _⟩ := (HA.out.new NW.out).at hlt
        obtain ⟨bb, ob, rfl, gd, _⟩ := (HB.out.new NW.out).at hlt2
        rw [es] at gc
        rw [eh] at gd
        have HS := Lib.hid (cdK_succ S H k s h es eh); clear es eh
        go_wp2
        go_quiet ((go_at_call 78; exact Calls.quiet_of (veCommon_any _ _ _ (by omega) (by omega))))
        go_wp2
        go_roundw
        case rel => exact ⟨k + 1, by omega, by go_num, by rw [HS.out], New.drewN NW.out _, by simpa using a0, by simpa using a1⟩
        case measure => simp [intOf]; omega
      · obtain rfl : k = n := by omega
        go_wp2
        go_ret2
        exact ⟨ret_pair (by simp only [divM, hg, if_true, cdV]; rw [← HN.out.1]), NW.out⟩
  · have hg' : goodB S H = false := by simpa using hg
    go_enter Try.func46, Try.ntmps46
    go_wp2_with fail
    refine (veGood_any _ _ _ _ _ _ _ _ _ (HA.out.new (by repeat (first | with_reducible exact New.refl _ | with_reducible assumption | refine New.drewN ?_ _ | refine New.drew ?_ | refine New.alloc ?_ _ | refine New.setCell ?_ (by first | omega | (simp; omega) | (simp; done)) _ | (refine New.trans ?_ (by assumption))))) (HB.out.new (by repeat (first | with_reducible exact New.refl _ | with_reducible assumption | refine New.drewN ?_ _ | refine New.drew ?_ | refine New.alloc ?_ _ | refine New.setCell ?_ (by first | omega | (simp; omega) | (simp; done)) _ | (refine New.trans ?_ (by assumption)))))).mono ?_
    rintro e w1 ⟨rfl, n1⟩
    go_wp2
    go_ret2
    exact ⟨ret_pair (by simp [divM, hg']), New.trans (by repeat (first | with_reducible exact New.refl _ | with_reducible assumption | refine New.drewN ?_ _ | refine New.drew ?_ | refine New.alloc ?_ _ | refine New.setCell ?_ (by first | omega | (simp; omega) | (simp; done)) _ | (refine New.trans ?_ (by assumption)))) n1⟩
end Go.Proofs.Ytkonhflamnekcab
