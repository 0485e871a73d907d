/- The program's functions of chapter 1, up to one move made. -/
import Derived.Test.YthnhckccmfjcmaaImpl2
import Derived.Test.YthnhckccmfjcmaaSpec3
namespace Go.Proofs.Ythnhckccmfjcmaa
open Go.RowKit

set_option maxHeartbeats 2000000 in
theorem iAreVessels_any (w : World) (aa ab : Option Addr) (n m ca cb : Nat) (S H : List Int) (h1 : Ints w aa n ca S) (h2 : Ints w ab m cb H) :
    Calls Try.prog 20 #[.agg #[.slice aa n ca, .slice ab m cb]] w fun e w' => e = .returned (.bool (goodB S H)) ∧ New w w' := by
  have HA := Lib.hid h1; clear h1
  have HB := Lib.hid h2; clear h2
  have hm1 := HA.out.2.2.1
  have hm2 := HB.out.2.2.1
  have e0 := HA.out.len
  have e1 := HB.out.len
  by_cases hn : 1 ≤ n
  · by_cases hn5 : n ≤ 5
    · by_cases hmn : m = n
      · have E := Lib.hid (And.intro e0 e1); clear e0 e1
        subst hmn
        go_enter Try.func20, Try.ntmps20
        go_wp2
        go_loop [25] (fun i => ∃ k : Nat, k ≤ m ∧ i = .int .i64 k ∧ ∀ j, j < k → (1 ≤ S[j]?.getD 0 ∧ S[j]?.getD 0 ≤ 60) ∧ 0 ≤ H[j]?.getD 0 ∧ H[j]?.getD 0 ≤ S[j]?.getD 0) (fun i => m - (intOf i).toNat)
        case atStart => exact ⟨0, Nat.zero_le _, rfl, fun j hj => absurd hj (by omega)⟩
        case round =>
          obtain ⟨k, hk, rfl, hpre⟩ := hrel
          have HP := Lib.hid hpre; clear hpre
          by_cases hlt : k < m
          · obtain ⟨ba, oa, rfl, ga, la⟩ := HA.out.at hlt
            obtain ⟨bb, ob, rfl, gb, lb⟩ := HB.out.at hlt
            have bad : ¬ ((1 ≤ S[k]?.getD 0 ∧ S[k]?.getD 0 ≤ 60) ∧ 0 ≤ H[k]?.getD 0 ∧ H[k]?.getD 0 ≤ S[k]?.getD 0) → goodB S H = false := fun h =>
              goodB_false.2 fun hg => h (by have := hg.at (j := k) (by have := E.out.1; omega); omega)
            have BAD := Lib.hid bad; clear bad
            by_cases q1 : 1 ≤ S[k]?.getD 0
            · by_cases q2 : S[k]?.getD 0 ≤ 60
              · by_cases q3 : 0 ≤ H[k]?.getD 0
                · by_cases q4 : H[k]?.getD 0 ≤ S[k]?.getD 0
                  · clear BAD
                    go_wp2
                    go_round
                    case rel =>
                      refine ⟨k + 1, by omega, by go_num, fun j hj => ?_⟩
                      by_cases e : j = k
                      · subst e; exact ⟨⟨q1, q2⟩, q3, q4⟩
                      · exact HP.out j (by omega)
                    case measure => simp [intOf]; omega
                  · go_wp2
                    go_ret
                    exact ⟨ret_bool (BAD.out (by omega)).symm, (by repeat (first | with_reducible exact New.refl _ | with_reducible assumption | refine New.drewN ?_ _ | refine New.drew ?_ | refine New.alloc ?_ _ | refine New.setCell ?_ (by first | omega | (simp; omega) | (simp; done)) _ | (refine New.trans ?_ (by assumption))))⟩
                · go_wp2
                  go_ret
                  exact ⟨ret_bool (BAD.out (by omega)).symm, (by repeat (first | with_reducible exact New.refl _ | with_reducible assumption | refine New.drewN ?_ _ | refine New.drew ?_ | refine New.alloc ?_ _ | refine New.setCell ?_ (by first | omega | (simp; omega) | (simp; done)) _ | (refine New.trans ?_ (by assumption))))⟩
              · go_wp2
                go_ret
                exact ⟨ret_bool (BAD.out (by omega)).symm, (by repeat (first | with_reducible exact New.refl _ | with_reducible assumption | refine New.drewN ?_ _ | refine New.drew ?_ | refine New.alloc ?_ _ | refine New.setCell ?_ (by first | omega | (simp; omega) | (simp; done)) _ | (refine New.trans ?_ (by assumption))))⟩
            · go_wp2
              go_ret
              exact ⟨ret_bool (BAD.out (by omega)).symm, (by repeat (first | with_reducible exact New.refl _ | with_reducible assumption | refine New.drewN ?_ _ | refine New.drew ?_ | refine New.alloc ?_ _ | refine New.setCell ?_ (by first | omega | (simp; omega) | (simp; done)) _ | (refine New.trans ?_ (by assumption))))⟩
          · go_wp2
            go_ret
            refine ⟨ret_bool (goodB_iff.2 ?_).symm, (by repeat (first | with_reducible exact New.refl _ | with_reducible assumption | refine New.drewN ?_ _ | refine New.drew ?_ | refine New.alloc ?_ _ | refine New.setCell ?_ (by first | omega | (simp; omega) | (simp; done)) _ | (refine New.trans ?_ (by assumption))))⟩
            have e0 := E.out.1
            have e1 := E.out.2
            exact ⟨by omega, by omega, fun j hj => (HP.out j (by omega)).1, fun j hj => (HP.out j (by omega)).2⟩
      · have hb := Lib.hid (goodB_false.2 (show ¬ Good S H from fun h => hmn (by have := h.2.1; omega)))
        have hmn' : ((m : Int) != (n : Int)) = true := by simpa using (fun h : (m : Int) = n => hmn (by omega))
        clear e0 e1
        go_enter Try.func20, Try.ntmps20
        go_wp2
        go_ret
        exact ⟨ret_bool hb.out.symm, (by repeat (first | with_reducible exact New.refl _ | with_reducible assumption | refine New.drewN ?_ _ | refine New.drew ?_ | refine New.alloc ?_ _ | refine New.setCell ?_ (by first | omega | (simp; omega) | (simp; done)) _ | (refine New.trans ?_ (by assumption))))⟩
    · have hb := Lib.hid (goodB_false.2 (show ¬ Good S H from fun h => hn5 (by have := h.1; omega)))
      clear e0 e1
      go_enter Try.func20, Try.ntmps20
      go_wp2
      go_ret
      exact ⟨ret_bool hb.out.symm, (by repeat (first | with_reducible exact New.refl _ | with_reducible assumption | refine New.drewN ?_ _ | refine New.drew ?_ | refine New.alloc ?_ _ | refine New.setCell ?_ (by first | omega | (simp; omega) | (simp; done)) _ | (refine New.trans ?_ (by assumption))))⟩
  · have hb := Lib.hid (goodB_false.2 (show ¬ Good S H from fun h => hn (by have := h.1; omega)))
    clear e0 e1
    go_enter Try.func20, Try.ntmps20
    go_wp2
    go_ret
    exact ⟨ret_bool hb.out.symm, (by repeat (first | with_reducible exact New.refl _ | with_reducible assumption | refine New.drewN ?_ _ | refine New.drew ?_ | refine New.alloc ?_ _ | refine New.setCell ?_ (by first | omega | (simp; omega) | (simp; done)) _ | (refine New.trans ?_ (by assumption))))⟩
end Go.Proofs.Ythnhckccmfjcmaa
