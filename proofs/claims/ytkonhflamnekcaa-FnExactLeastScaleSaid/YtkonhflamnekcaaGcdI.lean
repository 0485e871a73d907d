/- The common divisor of vessels, the program's. -/
import Derived.Test.YtkonhflamnekcaaGcd
namespace Go.Proofs.Ytkonhflamnekcaa
open Go.RowKit

theorem commonDivisor_any (w : World) (aa ab : Option Addr) (n m ca cb : Nat) (S H : List Int) (h1 : Ints w aa n ca S) (h2 : Ints w ab m cb H) (hg : Good S H) :
    Calls Try.prog 69 #[.agg #[.slice aa n ca, .slice ab m cb]] w fun e w' => e = .returned (.int .i64 (cdV S H : Nat)) ∧ New w w' := by
  have HA := Lib.hid h1; clear h1
  have HB := Lib.hid h2; clear h2
  have hn := HA.out.len
  have hm := HB.out.len
  have q5 : n ≤ 5 := by have := hg.1; omega
  have hmn : m ≤ n ∧ n ≤ m := by have := hg.2.1; omega
  obtain ⟨hm1, hm2⟩ := hmn
  have HG := Lib.hid hg; clear hg
  have HN := Lib.hid (And.intro hn hm); clear hn hm
  go_enter Try.func69, Try.ntmps69
  go_wp2
  go_loopw [3, 9] (fun d i wr => ∃ k : Nat, k ≤ n ∧ i = .int .i64 k ∧ d = .int .i64 (cdK S H k : Nat) ∧ New w wr ∧ wr.cell? ⟨w.heap.size, 0, none⟩ = some (.slice aa n ca) ∧ wr.cell? ⟨w.heap.size, 1, none⟩ = some (.slice ab m cb)) (fun _ i _ => n - (intOf i).toNat)
  case atStart => exact ⟨0, Nat.zero_le _, rfl, rfl, (by repeat (first | with_reducible exact New.refl _ | with_reducible assumption | refine New.drewN ?_ _ | refine New.drew ?_ | refine New.alloc ?_ _ | refine New.setCell ?_ (by first | omega | (simp; omega) | (simp; done)) _ | (refine New.trans ?_ (by assumption)))), by simp [go_sem], by simp [go_sem]⟩
  case round =>
    obtain ⟨k, hk, rfl, rfl, hnw, a0, a1⟩ := hrel
    have NW := Lib.hid hnw; clear hnw
    by_cases hlt : k < n
    · have hlt2 : k < m := by omega
      obtain ⟨s, h, es, eh, b1, b2, b3⟩ := HG.out.nats (show k < S.length by have := HN.out.1; omega)
      have b4 := (cdK_bd HG.out (show k ≤ S.length by have := HN.out.1; omega)).1
      have b5 := gcd3 (c := cdK S H k) (h := h) b1 b2
      have b6 : Nat.gcd (cdK S H k) s ≤ 1000 := by omega
      clear b5
      obtain ⟨ba, oa, rfl, gc, _⟩ := (HA.out.new NW.out).at hlt
      obtain ⟨bb, ob, rfl, gd, _⟩ := (HB.out.new NW.out).at hlt2
      rw [es] at gc
      rw [eh] at gd
      have HS := Lib.hid (cdK_succ S H k s h es eh); clear es eh
      go_wp2
      go_quiet ((go_at_call 73; exact Calls.quiet_of (greatestDivisor_any _ _ _ (by omega) (by omega))))
      go_wp2
      go_roundw
      case rel => exact ⟨k + 1, by omega, by go_num, by rw [HS.out], New.drewN NW.out _, by simpa using a0, by simpa using a1⟩
      case measure => simp [intOf]; omega
    · obtain rfl : k = n := by omega
      go_wp2
      go_ret
      exact ⟨ret_int (by unfold cdV; rw [← HN.out.1]), NW.out⟩
end Go.Proofs.Ytkonhflamnekcaa
