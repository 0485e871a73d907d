/- The program's functions of chapter 1 that answer with numbers. -/
import Derived.Test.YtidklnpohgmnpaaImpl3
namespace Go.Proofs.Ytidklnpohgmnpaa
open Go.RowKit

theorem iSumHeld_any (w : World) (aa ab : Option Addr) (n m ca cb : Nat) (S H : List Int) (h1 : Ints w aa n ca S) (h2 : Ints w ab m cb H) :
    Calls Try.prog 62 #[.agg #[.slice aa n ca, .slice ab m cb]] w fun e w' => e = .returned (.tuple #[.int .i64 (sumM S H).1, .bool (sumM S H).2]) ∧ New w w' := by
  have HA := Lib.hid h1; clear h1
  have HB := Lib.hid h2; clear h2
  by_cases hg : goodB S H = true
  · have hG := goodB_iff.1 hg
    have hv : ∀ j, j < H.length → 0 ≤ H[j]?.getD 0 ∧ H[j]?.getD 0 ≤ 60 := fun j hj => by have := hG.at (j := j) (by have := hG.2.1; omega); omega
    have hm5 : m ≤ 5 := by have := HB.out.len; have := hG.1; have := hG.2.1; omega
    have HV := Lib.hid hv; clear hv
    have HG := Lib.hid hG; clear hG
    go_enter Try.func62, Try.ntmps62
    go_wp2_with fail
    refine (iAreVessels_any _ _ _ _ _ _ _ _ _ (HA.out.new (by repeat (first | with_reducible exact New.refl _ | with_reducible assumption | refine New.drewN ?_ _ | refine New.drew ?_ | refine New.alloc ?_ _ | refine New.setCell ?_ (by first | omega | (simp; omega) | (simp; done)) _ | (refine New.trans ?_ (by assumption))))) (HB.out.new (by repeat (first | with_reducible exact New.refl _ | with_reducible assumption | refine New.drewN ?_ _ | refine New.drew ?_ | refine New.alloc ?_ _ | refine New.setCell ?_ (by first | omega | (simp; omega) | (simp; done)) _ | (refine New.trans ?_ (by assumption)))))).mono ?_
    rintro e w1 ⟨rfl, n1⟩
    obtain ⟨hc, hf, hz⟩ := bcell n1
    have nw : New w w1 := New.trans (by repeat (first | with_reducible exact New.refl _ | with_reducible assumption | refine New.drewN ?_ _ | refine New.drew ?_ | refine New.alloc ?_ _ | refine New.setCell ?_ (by first | omega | (simp; omega) | (simp; done)) _ | (refine New.trans ?_ (by assumption)))) n1
    have N1 := Lib.hid nw; clear n1 nw
    go_wp2_with fail
    have HB1 := Lib.hid (HB.out.new N1.out)
    clear hc hf hz
    have HG2 := Lib.hid hg; clear hg
    go_loop [4, 13] (fun s i => ∃ k : Nat, k ≤ m ∧ i = .int .i64 k ∧ s = .int .i64 (sumOf (H.take k))) (fun _ i => m - (intOf i).toNat)
    case atStart => exact ⟨0, Nat.zero_le _, rfl, rfl⟩
    case round =>
      obtain ⟨k, hk, rfl, rfl⟩ := hrel
      have hlen := HB.out.len
      obtain ⟨s0, s1⟩ := sumOf_le H HV.out k (by omega)
      by_cases hlt : k < m
      · obtain ⟨b, o, rfl, hc, _⟩ := HB1.out.at hlt
        obtain ⟨v0, v1⟩ := HV.out k (by omega)
        have HS := Lib.hid (sumOf_snoc H k (by omega))
        have HLEN := Lib.hid hlen; clear hlen
        go_wp2
        go_round
        case rel => exact ⟨k + 1, by omega, by go_num, by rw [HS.out]⟩
        case measure => simp [intOf]; omega
      · have e : H.take k = H := List.take_of_length_le (by omega)
        rw [e]
        have HLEN := Lib.hid hlen; clear hlen
        have HE := Lib.hid e; clear e
        go_wp2
        go_ret2
        exact ⟨ret_pair (by simp [sumM, HG2.out]), N1.out⟩
  · have hg' : goodB S H = false := by simpa using hg
    go_enter Try.func62, Try.ntmps62
    go_wp2_with fail
    refine (iAreVessels_any _ _ _ _ _ _ _ _ _ (HA.out.new (by repeat (first | with_reducible exact New.refl _ | with_reducible assumption | refine New.drewN ?_ _ | refine New.drew ?_ | refine New.alloc ?_ _ | refine New.setCell ?_ (by first | omega | (simp; omega) | (simp; done)) _ | (refine New.trans ?_ (by assumption))))) (HB.out.new (by repeat (first | with_reducible exact New.refl _ | with_reducible assumption | refine New.drewN ?_ _ | refine New.drew ?_ | refine New.alloc ?_ _ | refine New.setCell ?_ (by first | omega | (simp; omega) | (simp; done)) _ | (refine New.trans ?_ (by assumption)))))).mono ?_
    rintro e w1 ⟨rfl, n1⟩
    go_wp2
    go_ret2
    exact ⟨ret_pair (by simp [sumM, hg']), New.trans (by repeat (first | with_reducible exact New.refl _ | with_reducible assumption | refine New.drewN ?_ _ | refine New.drew ?_ | refine New.alloc ?_ _ | refine New.setCell ?_ (by first | omega | (simp; omega) | (simp; done)) _ | (refine New.trans ?_ (by assumption)))) n1⟩
end Go.Proofs.Ytidklnpohgmnpaa
