/- The model's functions on one siphon, and the laws' own helpers on siphons and levels. -/
import Derived.Test.YtafiihhiipfejaaSip
namespace Go.Proofs.Ytafiihhiipfejaa
open Go.RowKit

theorem l1In_any (n lo hi : Int) (w : World) :
    Calls Try.prog 55 #[.int .i64 n, .int .i64 lo, .int .i64 hi] w fun e w' => e = .returned (.bool (inB lo hi n)) ∧ w = w' := by
  by_cases h1 : lo ≤ n
  · go_enter Try.func55, Try.ntmps55
    go_wp2
    go_ret
    exact ⟨ret_bool (by simp [inB, h1]), rfl⟩
  · have h2 : decide (lo ≤ n) = false := by simpa using h1
    go_enter Try.func55, Try.ntmps55
    go_wp2
    go_ret
    exact ⟨ret_bool (by unfold inB; rw [h2]; rfl), rfl⟩

theorem l1Least_any (a b : Int) (w : World) : Calls Try.prog 53 #[.int .i64 a, .int .i64 b] w fun e w' => e = .returned (.int .i64 (min a b)) ∧ w = w' := by
  by_cases h : a < b
  · go_enter Try.func53, Try.ntmps53
    go_wp2
    go_ret
    exact ⟨ret_int (by omega), rfl⟩
  · go_enter Try.func53, Try.ntmps53
    go_wp2
    go_ret
    exact ⟨ret_int (by omega), rfl⟩

theorem l1Most_any (a b : Int) (w : World) : Calls Try.prog 54 #[.int .i64 a, .int .i64 b] w fun e w' => e = .returned (.int .i64 (max a b)) ∧ w = w' := by
  by_cases h : a > b
  · go_enter Try.func54, Try.ntmps54
    go_wp2
    go_ret
    exact ⟨ret_int (by omega), rfl⟩
  · go_enter Try.func54, Try.ntmps54
    go_wp2
    go_ret
    exact ⟨ret_int (by omega), rfl⟩

theorem siGood_any (w : World) (a b c d : Int) :
    Calls Try.prog 49 #[sipV a b c d] w fun e w' => e = .returned (.bool (sipB a b c d)) ∧ New w w' := by
  by_cases g1 : inB 1 60 a = true
  · obtain ⟨a0, a1⟩ := inB_iff.1 g1
    by_cases g2 : inB 0 (a - 1) b = true
    · obtain ⟨b0, b1⟩ := inB_iff.1 g2
      by_cases g3 : inB (b + 1) a c = true
      · obtain ⟨c0, c1⟩ := inB_iff.1 g3
        by_cases g4 : inB 1 60 d = true
        · obtain ⟨d0, d1⟩ := inB_iff.1 g4
          go_enter Try.func49, Try.ntmps49
          go_wp2_with fail
          refine (l1In_any _ _ _ _).mono ?_
          rintro e w9 ⟨rfl, rfl⟩
          go_wp2_with fail
          refine (l1In_any _ _ _ _).mono ?_
          rintro e w9 ⟨rfl, rfl⟩
          go_wp2_with fail
          refine (l1In_any _ _ _ _).mono ?_
          rintro e w9 ⟨rfl, rfl⟩
          go_wp2_with fail
          refine (l1In_any _ _ _ _).mono ?_
          rintro e w9 ⟨rfl, rfl⟩
          go_wp2
          go_ret
          exact ⟨ret_bool (sipB_iff.2 (by unfold SipOk; omega)).symm, (by repeat (first | with_reducible exact New.refl _ | with_reducible assumption | refine New.drewN ?_ _ | refine New.drew ?_ | refine New.alloc ?_ _ | refine New.setCell ?_ (by first | omega | (simp; omega) | (simp; done)) _ | (refine New.trans ?_ (by assumption))))⟩
        · have g4f : inB 1 60 d = false := by simpa using g4
          have hn := inB_false.1 g4f
          go_enter Try.func49, Try.ntmps49
          go_wp2_with fail
          refine (l1In_any _ _ _ _).mono ?_
          rintro e w9 ⟨rfl, rfl⟩
          go_wp2_with fail
          refine (l1In_any _ _ _ _).mono ?_
          rintro e w9 ⟨rfl, rfl⟩
          go_wp2_with fail
          refine (l1In_any _ _ _ _).mono ?_
          rintro e w9 ⟨rfl, rfl⟩
          go_wp2_with fail
          refine (l1In_any _ _ _ _).mono ?_
          rintro e w9 ⟨rfl, rfl⟩
          go_wp2
          go_ret
          exact ⟨ret_bool (sipB_false.2 fun h => by unfold SipOk at h; omega).symm, (by repeat (first | with_reducible exact New.refl _ | with_reducible assumption | refine New.drewN ?_ _ | refine New.drew ?_ | refine New.alloc ?_ _ | refine New.setCell ?_ (by first | omega | (simp; omega) | (simp; done)) _ | (refine New.trans ?_ (by assumption))))⟩
      · have g3f : inB (b + 1) a c = false := by simpa using g3
        have hn := inB_false.1 g3f
        go_enter Try.func49, Try.ntmps49
        go_wp2_with fail
        refine (l1In_any _ _ _ _).mono ?_
        rintro e w9 ⟨rfl, rfl⟩
        go_wp2_with fail
        refine (l1In_any _ _ _ _).mono ?_
        rintro e w9 ⟨rfl, rfl⟩
        go_wp2_with fail
        refine (l1In_any _ _ _ _).mono ?_
        rintro e w9 ⟨rfl, rfl⟩
        go_wp2
        go_ret
        exact ⟨ret_bool (sipB_false.2 fun h => by unfold SipOk at h; omega).symm, (by repeat (first | with_reducible exact New.refl _ | with_reducible assumption | refine New.drewN ?_ _ | refine New.drew ?_ | refine New.alloc ?_ _ | refine New.setCell ?_ (by first | omega | (simp; omega) | (simp; done)) _ | (refine New.trans ?_ (by assumption))))⟩
    · have g2f : inB 0 (a - 1) b = false := by simpa using g2
      have hn := inB_false.1 g2f
      go_enter Try.func49, Try.ntmps49
      go_wp2_with fail
      refine (l1In_any _ _ _ _).mono ?_
      rintro e w9 ⟨rfl, rfl⟩
      go_wp2_with fail
      refine (l1In_any _ _ _ _).mono ?_
      rintro e w9 ⟨rfl, rfl⟩
      go_wp2
      go_ret
      exact ⟨ret_bool (sipB_false.2 fun h => by unfold SipOk at h; omega).symm, (by repeat (first | with_reducible exact New.refl _ | with_reducible assumption | refine New.drewN ?_ _ | refine New.drew ?_ | refine New.alloc ?_ _ | refine New.setCell ?_ (by first | omega | (simp; omega) | (simp; done)) _ | (refine New.trans ?_ (by assumption))))⟩
  · have g1f : inB 1 60 a = false := by simpa using g1
    have hn := inB_false.1 g1f
    go_enter Try.func49, Try.ntmps49
    go_wp2_with fail
    refine (l1In_any _ _ _ _).mono ?_
    rintro e w9 ⟨rfl, rfl⟩
    go_wp2
    go_ret
    exact ⟨ret_bool (sipB_false.2 fun h => by unfold SipOk at h; omega).symm, (by repeat (first | with_reducible exact New.refl _ | with_reducible assumption | refine New.drewN ?_ _ | refine New.drew ?_ | refine New.alloc ?_ _ | refine New.setCell ?_ (by first | omega | (simp; omega) | (simp; done)) _ | (refine New.trans ?_ (by assumption))))⟩

theorem siInflow_any (w : World) (x : Int) :
    Calls Try.prog 46 #[.int .i64 x] w fun e w' => e = .returned (.bool (inB 0 60 x)) ∧ w = w' := by
  go_enter Try.func46, Try.ntmps46
  go_wp2_with fail
  refine (l1In_any _ _ _ _).mono ?_
  rintro e w9 ⟨rfl, rfl⟩
  go_wp2
  go_ret
  exact ⟨rfl, rfl⟩

theorem siSteady_any (w : World) (a b c d x : Int) :
    Calls Try.prog 33 #[sipV a b c d, .int .i64 x] w fun e w' => e = .returned (.bool (steadyB a b c d x)) ∧ New w w' := by
  by_cases hs : sipB a b c d = true
  · go_enter Try.func33, Try.ntmps33
    go_wp2_with fail
    refine (siGood_any _ _ _ _ _).mono ?_
    rintro e w1 ⟨rfl, n1⟩
    obtain ⟨hc1, hf1, hz1⟩ := bcell n1
    (try simp at hz1)
    have z1_0 : w.heap.size < w1.heap.size := by omega
    have N1 := Lib.hid (show New w w1 from New.trans (by repeat (first | with_reducible exact New.refl _ | with_reducible assumption | refine New.drewN ?_ _ | refine New.drew ?_ | refine New.alloc ?_ _ | refine New.setCell ?_ (by first | omega | (simp; omega) | (simp; done)) _ | (refine New.trans ?_ (by assumption)))) n1); clear n1
    go_wp2_with fail
    refine (siInflow_any _ _).mono ?_
    rintro e w9 ⟨rfl, rfl⟩
    go_wp2
    go_ret
    exact ⟨ret_bool (by simp [steadyB, hs]), N1.out⟩
  · have hf : sipB a b c d = false := by simpa using hs
    go_enter Try.func33, Try.ntmps33
    go_wp2_with fail
    refine (siGood_any _ _ _ _ _).mono ?_
    rintro e w1 ⟨rfl, n1⟩
    obtain ⟨hc1, hf1, hz1⟩ := bcell n1
    (try simp at hz1)
    have z1_0 : w.heap.size < w1.heap.size := by omega
    have N1 := Lib.hid (show New w w1 from New.trans (by repeat (first | with_reducible exact New.refl _ | with_reducible assumption | refine New.drewN ?_ _ | refine New.drew ?_ | refine New.alloc ?_ _ | refine New.setCell ?_ (by first | omega | (simp; omega) | (simp; done)) _ | (refine New.trans ?_ (by assumption)))) n1); clear n1
    go_wp2
    go_ret
    exact ⟨ret_bool (by simp [steadyB, hf]), N1.out⟩

set_option maxHeartbeats 2000000 in
theorem siTick_any (w : World) (a b c d u x : Int) (r : Bool) (hs : SipOk a b c d) (h0 : 0 ≤ u) (h1 : u ≤ a) (x0 : 0 ≤ x) (x1 : x ≤ 60) :
    Calls Try.prog 38 #[sipV a b c d, levV u r, .int .i64 x] w fun e w' => e = .returned (.tuple #[levV (tkH a b c d u x r) (tkR a b c d u x r), .int .i64 (tkO a b c d u x r), .int .i64 (tkS a u x)]) ∧ New w w' := by
  have hs' := hs
  unfold SipOk at hs'
  obtain ⟨⟨a0, a1⟩, ⟨b0, c0, c1⟩, d0, d1⟩ := hs'
  clear hs
  by_cases ho : a < u + x
  · cases r with
    | true =>
      go_enter Try.func38, Try.ntmps38
      go_wp2
      go_quiet ((first | (go_at_call 54; exact Calls.quiet_of_same ((l1Most_any _ _ _).mono fun e w9 h => ⟨h.1, h.2.symm⟩)) | (go_at_call 53; exact Calls.quiet_of_same ((l1Least_any _ _ _).mono fun e w9 h => ⟨h.1, h.2.symm⟩))))
      go_wp2
      all_goals
        refine bodyPost_ret (v := .tuple #[levV (tkH a b c d u x true) (tkR a b c d u x true), .int .i64 (tkO a b c d u x true), .int .i64 (tkS a u x)]) ?_ rfl ⟨rfl, (by repeat (first | with_reducible exact New.refl _ | with_reducible assumption | refine New.drewN ?_ _ | refine New.drew ?_ | refine New.alloc ?_ _ | refine New.setCell ?_ (by first | omega | (simp; omega) | (simp; done)) _ | (refine New.trans ?_ (by assumption))))⟩
        simp [results, Try.results38, go_sem]
        exact tk_run a b c d u x true (.inl rfl) (by omega) (by omega) (by omega) (by omega)
    | false =>
      by_cases hc : c ≤ a
      · skip
        go_enter Try.func38, Try.ntmps38
        go_wp2
        go_quiet ((first | (go_at_call 54; exact Calls.quiet_of_same ((l1Most_any _ _ _).mono fun e w9 h => ⟨h.1, h.2.symm⟩)) | (go_at_call 53; exact Calls.quiet_of_same ((l1Least_any _ _ _).mono fun e w9 h => ⟨h.1, h.2.symm⟩))))
        go_wp2
        all_goals
          refine bodyPost_ret (v := .tuple #[levV (tkH a b c d u x false) (tkR a b c d u x false), .int .i64 (tkO a b c d u x false), .int .i64 (tkS a u x)]) ?_ rfl ⟨rfl, (by repeat (first | with_reducible exact New.refl _ | with_reducible assumption | refine New.drewN ?_ _ | refine New.drew ?_ | refine New.alloc ?_ _ | refine New.setCell ?_ (by first | omega | (simp; omega) | (simp; done)) _ | (refine New.trans ?_ (by assumption))))⟩
          simp [results, Try.results38, go_sem]
          exact tk_run a b c d u x false (.inr (by omega)) (by omega) (by omega) (by omega) (by omega)
      · exact absurd c1 hc
  · cases r with
    | true =>
      go_enter Try.func38, Try.ntmps38
      go_wp2
      go_quiet ((first | (go_at_call 54; exact Calls.quiet_of_same ((l1Most_any _ _ _).mono fun e w9 h => ⟨h.1, h.2.symm⟩)) | (go_at_call 53; exact Calls.quiet_of_same ((l1Least_any _ _ _).mono fun e w9 h => ⟨h.1, h.2.symm⟩))))
      go_wp2
      all_goals
        refine bodyPost_ret (v := .tuple #[levV (tkH a b c d u x true) (tkR a b c d u x true), .int .i64 (tkO a b c d u x true), .int .i64 (tkS a u x)]) ?_ rfl ⟨rfl, (by repeat (first | with_reducible exact New.refl _ | with_reducible assumption | refine New.drewN ?_ _ | refine New.drew ?_ | refine New.alloc ?_ _ | refine New.setCell ?_ (by first | omega | (simp; omega) | (simp; done)) _ | (refine New.trans ?_ (by assumption))))⟩
        simp [results, Try.results38, go_sem]
        exact tk_run a b c d u x true (.inl rfl) (by omega) (by omega) (by omega) (by omega)
    | false =>
      by_cases hc : c ≤ u + x
      · skip
        go_enter Try.func38, Try.ntmps38
        go_wp2
        go_quiet ((first | (go_at_call 54; exact Calls.quiet_of_same ((l1Most_any _ _ _).mono fun e w9 h => ⟨h.1, h.2.symm⟩)) | (go_at_call 53; exact Calls.quiet_of_same ((l1Least_any _ _ _).mono fun e w9 h => ⟨h.1, h.2.symm⟩))))
        go_wp2
        all_goals
          refine bodyPost_ret (v := .tuple #[levV (tkH a b c d u x false) (tkR a b c d u x false), .int .i64 (tkO a b c d u x false), .int .i64 (tkS a u x)]) ?_ rfl ⟨rfl, (by repeat (first | with_reducible exact New.refl _ | with_reducible assumption | refine New.drewN ?_ _ | refine New.drew ?_ | refine New.alloc ?_ _ | refine New.setCell ?_ (by first | omega | (simp; omega) | (simp; done)) _ | (refine New.trans ?_ (by assumption))))⟩
          simp [results, Try.results38, go_sem]
          exact tk_run a b c d u x false (.inr (by omega)) (by omega) (by omega) (by omega) (by omega)
      · have hcf : decide (c ≤ u + x) = false := by simpa using hc
        go_enter Try.func38, Try.ntmps38
        go_wp2
        all_goals
          refine bodyPost_ret (v := .tuple #[levV (tkH a b c d u x false) (tkR a b c d u x false), .int .i64 (tkO a b c d u x false), .int .i64 (tkS a u x)]) ?_ rfl ⟨rfl, (by repeat (first | with_reducible exact New.refl _ | with_reducible assumption | refine New.drewN ?_ _ | refine New.drew ?_ | refine New.alloc ?_ _ | refine New.setCell ?_ (by first | omega | (simp; omega) | (simp; done)) _ | (refine New.trans ?_ (by assumption))))⟩
          simp [results, Try.results38, go_sem]
          obtain ⟨⟨q1, q2⟩, q3, q4⟩ := tk_idle a b c d u x false rfl (by omega) rfl rfl
          exact ⟨⟨by rw [← q1]; omega, q2.symm⟩, q3, by rw [← q4]; omega⟩

theorem toSiphon_any (w : World) (a b c d : Int) :
    Calls Try.prog 10 #[sipV a b c d] w fun e w' => e = .returned (sipV a b c d) ∧ New w w' := by
  go_enter Try.func10, Try.ntmps10
  go_wp2
  refine bodyPost_ret (v := sipV a b c d) (by simp [results, Try.results10, go_sem]) rfl ⟨rfl, (by repeat (first | with_reducible exact New.refl _ | with_reducible assumption | refine New.drewN ?_ _ | refine New.drew ?_ | refine New.alloc ?_ _ | refine New.setCell ?_ (by first | omega | (simp; omega) | (simp; done)) _ | (refine New.trans ?_ (by assumption))))⟩
end Go.Proofs.Ytafiihhiipfejaa
