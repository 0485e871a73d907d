/- The model's functions on one siphon, and the laws' own helpers on siphons and levels. -/
import Derived.Test.YtfhpmihjfojbnaaSip
namespace Go.Proofs.Ytfhpmihjfojbnaa
open Go.RowKit

theorem l1In_any (n lo hi : Int) (w : World) :
    Calls Try.prog 73 #[.int .i64 n, .int .i64 lo, .int .i64 hi] w fun e w' => e = .returned (.bool (inB lo hi n)) ∧ w = w' := by
  by_cases h1 : lo ≤ n
  · go_enter Try.func73, Try.ntmps73
    go_wp2
    go_ret
    exact ⟨ret_bool (by simp [inB, h1]), rfl⟩
  · have h2 : decide (lo ≤ n) = false := by simpa using h1
    go_enter Try.func73, Try.ntmps73
    go_wp2
    go_ret
    exact ⟨ret_bool (by unfold inB; rw [h2]; rfl), rfl⟩

theorem l1Least_any (a b : Int) (w : World) : Calls Try.prog 74 #[.int .i64 a, .int .i64 b] w fun e w' => e = .returned (.int .i64 (min a b)) ∧ w = w' := by
  by_cases h : a < b
  · go_enter Try.func74, Try.ntmps74
    go_wp2
    go_ret
    exact ⟨ret_int (by omega), rfl⟩
  · go_enter Try.func74, Try.ntmps74
    go_wp2
    go_ret
    exact ⟨ret_int (by omega), rfl⟩

theorem l1Most_any (a b : Int) (w : World) : Calls Try.prog 75 #[.int .i64 a, .int .i64 b] w fun e w' => e = .returned (.int .i64 (max a b)) ∧ w = w' := by
  by_cases h : a > b
  · go_enter Try.func75, Try.ntmps75
    go_wp2
    go_ret
    exact ⟨ret_int (by omega), rfl⟩
  · go_enter Try.func75, Try.ntmps75
    go_wp2
    go_ret
    exact ⟨ret_int (by omega), rfl⟩

theorem siGood_any (w : World) (a b c d : Int) :
    Calls Try.prog 57 #[sipV a b c d] w fun e w' => e = .returned (.bool (sipB a b c d)) ∧ New w w' := by
  by_cases g1 : inB 1 60 a = true
  · obtain ⟨a0, a1⟩ := inB_iff.1 g1
    by_cases g2 : inB 0 (a - 1) b = true
    · obtain ⟨b0, b1⟩ := inB_iff.1 g2
      by_cases g3 : inB (b + 1) a c = true
      · obtain ⟨c0, c1⟩ := inB_iff.1 g3
        by_cases g4 : inB 1 60 d = true
        · obtain ⟨d0, d1⟩ := inB_iff.1 g4
          go_enter Try.func57, Try.ntmps57
          go_wp2_with fail
          refine (l1In_any _ _ _ _).mono ?_
          rintro e w9 ⟨rfl, rfl⟩
          go_wp2_with fail
          refine (l1In_any _ _ _ _).mono ?_
          rintro e w9 ⟨rfl, rfl⟩
          go_wp2_with fail
          refine (l1In_any _ _ _ _).mono ?_
          rintro e w9 ⟨rfl, rfl⟩
          go_wp2_with fail
          refine (l1In_any _ _ _ _).mono ?_
          rintro e w9 ⟨rfl, rfl⟩
          go_wp2
          go_ret
          exact ⟨ret_bool (sipB_iff.2 (by unfold SipOk; omega)).symm, (by repeat (first | with_reducible exact New.refl _ | with_reducible assumption | refine New.drewN ?_ _ | refine New.drew ?_ | refine New.alloc ?_ _ | refine New.setCell ?_ (by first | omega | (simp; omega) | (simp; done)) _ | (refine New.trans ?_ (by assumption))))⟩
        · have g4f : inB 1 60 d = false := by simpa using g4
          have hn := inB_false.1 g4f
          go_enter Try.func57, Try.ntmps57
          go_wp2_with fail
          refine (l1In_any _ _ _ _).mono ?_
          rintro e w9 ⟨rfl, rfl⟩
          go_wp2_with fail
          refine (l1In_any _ _ _ _).mono ?_
          rintro e w9 ⟨rfl, rfl⟩
          go_wp2_with fail
          refine (l1In_any _ _ _ _).mono ?_
          rintro e w9 ⟨rfl, rfl⟩
          go_wp2_with fail
          refine (l1In_any _ _ _ _).mono ?_
          rintro e w9 ⟨rfl, rfl⟩
          go_wp2
          go_ret
          exact ⟨ret_bool (sipB_false.2 fun h => by unfold SipOk at h; omega).symm, (by repeat (first | with_reducible exact New.refl _ | with_reducible assumption | refine New.drewN ?_ _ | refine New.drew ?_ | refine New.alloc ?_ _ | refine New.setCell ?_ (by first | omega | (simp; omega) | (simp; done)) _ | (refine New.trans ?_ (by assumption))))⟩
      · have g3f : inB (b + 1) a c = false := by simpa using g3
        have hn := inB_false.1 g3f
        go_enter Try.func57, Try.ntmps57
        go_wp2_with fail
        refine (l1In_any _ _ _ _).mono ?_
        rintro e w9 ⟨rfl, rfl⟩
        go_wp2_with fail
        refine (l1In_any _ _ _ _).mono ?_
        rintro e w9 ⟨rfl, rfl⟩
        go_wp2_with fail
        refine (l1In_any _ _ _ _).mono ?_
        rintro e w9 ⟨rfl, rfl⟩
        go_wp2
        go_ret
        exact ⟨ret_bool (sipB_false.2 fun h => by unfold SipOk at h; omega).symm, (by repeat (first | with_reducible exact New.refl _ | with_reducible assumption | refine New.drewN ?_ _ | refine New.drew ?_ | refine New.alloc ?_ _ | refine New.setCell ?_ (by first | omega | (simp; omega) | (simp; done)) _ | (refine New.trans ?_ (by assumption))))⟩
    · have g2f : inB 0 (a - 1) b = false := by simpa using g2
      have hn := inB_false.1 g2f
      go_enter Try.func57, Try.ntmps57
      go_wp2_with fail
      refine (l1In_any _ _ _ _).mono ?_
      rintro e w9 ⟨rfl, rfl⟩
      go_wp2_with fail
      refine (l1In_any _ _ _ _).mono ?_
      rintro e w9 ⟨rfl, rfl⟩
      go_wp2
      go_ret
      exact ⟨ret_bool (sipB_false.2 fun h => by unfold SipOk at h; omega).symm, (by repeat (first | with_reducible exact New.refl _ | with_reducible assumption | refine New.drewN ?_ _ | refine New.drew ?_ | refine New.alloc ?_ _ | refine New.setCell ?_ (by first | omega | (simp; omega) | (simp; done)) _ | (refine New.trans ?_ (by assumption))))⟩
  · have g1f : inB 1 60 a = false := by simpa using g1
    have hn := inB_false.1 g1f
    go_enter Try.func57, Try.ntmps57
    go_wp2_with fail
    refine (l1In_any _ _ _ _).mono ?_
    rintro e w9 ⟨rfl, rfl⟩
    go_wp2
    go_ret
    exact ⟨ret_bool (sipB_false.2 fun h => by unfold SipOk at h; omega).symm, (by repeat (first | with_reducible exact New.refl _ | with_reducible assumption | refine New.drewN ?_ _ | refine New.drew ?_ | refine New.alloc ?_ _ | refine New.setCell ?_ (by first | omega | (simp; omega) | (simp; done)) _ | (refine New.trans ?_ (by assumption))))⟩

theorem siLevel_any (w : World) (a b c d u : Int) (r : Bool) :
    Calls Try.prog 54 #[sipV a b c d, levV u r] w fun e w' => e = .returned (.bool (levB a b c d u)) ∧ New w w' := by
  by_cases hs : sipB a b c d = true
  · go_enter Try.func54, Try.ntmps54
    go_wp2_with fail
    refine (siGood_any _ _ _ _ _).mono ?_
    rintro e w1 ⟨rfl, n1⟩
    obtain ⟨hc1, hf1, hz1⟩ := bcell n1
    (try simp at hz1)
    have z1_0 : w.heap.size < w1.heap.size := by omega
    have z1_1 : w.heap.size + 1 < w1.heap.size := by omega
    have N1 := Lib.hid (show New w w1 from New.trans (by repeat (first | with_reducible exact New.refl _ | with_reducible assumption | refine New.drewN ?_ _ | refine New.drew ?_ | refine New.alloc ?_ _ | refine New.setCell ?_ (by first | omega | (simp; omega) | (simp; done)) _ | (refine New.trans ?_ (by assumption)))) n1); clear n1
    go_wp2_with fail
    refine (l1In_any _ _ _ _).mono ?_
    rintro e w9 ⟨rfl, rfl⟩
    go_wp2
    go_ret
    exact ⟨ret_bool (by simp [levB, hs]), N1.out⟩
  · have hf : sipB a b c d = false := by simpa using hs
    go_enter Try.func54, Try.ntmps54
    go_wp2_with fail
    refine (siGood_any _ _ _ _ _).mono ?_
    rintro e w1 ⟨rfl, n1⟩
    obtain ⟨hc1, hf1, hz1⟩ := bcell n1
    (try simp at hz1)
    have z1_0 : w.heap.size < w1.heap.size := by omega
    have z1_1 : w.heap.size + 1 < w1.heap.size := by omega
    have N1 := Lib.hid (show New w w1 from New.trans (by repeat (first | with_reducible exact New.refl _ | with_reducible assumption | refine New.drewN ?_ _ | refine New.drew ?_ | refine New.alloc ?_ _ | refine New.setCell ?_ (by first | omega | (simp; omega) | (simp; done)) _ | (refine New.trans ?_ (by assumption)))) n1); clear n1
    go_wp2
    go_ret
    exact ⟨ret_bool (by simp [levB, hf]), N1.out⟩

theorem siInflow_any (w : World) (x : Int) :
    Calls Try.prog 55 #[.int .i64 x] w fun e w' => e = .returned (.bool (inB 0 60 x)) ∧ w = w' := by
  go_enter Try.func55, Try.ntmps55
  go_wp2_with fail
  refine (l1In_any _ _ _ _).mono ?_
  rintro e w9 ⟨rfl, rfl⟩
  go_wp2
  go_ret
  exact ⟨rfl, rfl⟩

theorem siSteady_any (w : World) (a b c d x : Int) :
    Calls Try.prog 59 #[sipV a b c d, .int .i64 x] w fun e w' => e = .returned (.bool (steadyB a b c d x)) ∧ New w w' := by
  by_cases hs : sipB a b c d = true
  · go_enter Try.func59, Try.ntmps59
    go_wp2_with fail
    refine (siGood_any _ _ _ _ _).mono ?_
    rintro e w1 ⟨rfl, n1⟩
    obtain ⟨hc1, hf1, hz1⟩ := bcell n1
    (try simp at hz1)
    have z1_0 : w.heap.size < w1.heap.size := by omega
    have N1 := Lib.hid (show New w w1 from New.trans (by repeat (first | with_reducible exact New.refl _ | with_reducible assumption | refine New.drewN ?_ _ | refine New.drew ?_ | refine New.alloc ?_ _ | refine New.setCell ?_ (by first | omega | (simp; omega) | (simp; done)) _ | (refine New.trans ?_ (by assumption)))) n1); clear n1
    go_wp2_with fail
    refine (siInflow_any _ _).mono ?_
    rintro e w9 ⟨rfl, rfl⟩
    go_wp2
    go_ret
    exact ⟨ret_bool (by simp [steadyB, hs]), N1.out⟩
  · have hf : sipB a b c d = false := by simpa using hs
    go_enter Try.func59, Try.ntmps59
    go_wp2_with fail
    refine (siGood_any _ _ _ _ _).mono ?_
    rintro e w1 ⟨rfl, n1⟩
    obtain ⟨hc1, hf1, hz1⟩ := bcell n1
    (try simp at hz1)
    have z1_0 : w.heap.size < w1.heap.size := by omega
    have N1 := Lib.hid (show New w w1 from New.trans (by repeat (first | with_reducible exact New.refl _ | with_reducible assumption | refine New.drewN ?_ _ | refine New.drew ?_ | refine New.alloc ?_ _ | refine New.setCell ?_ (by first | omega | (simp; omega) | (simp; done)) _ | (refine New.trans ?_ (by assumption)))) n1); clear n1
    go_wp2
    go_ret
    exact ⟨ret_bool (by simp [steadyB, hf]), N1.out⟩

theorem sIsSiphon_any (w : World) (a b c d : Int) :
    Calls Try.prog 25 #[sipV a b c d] w fun e w' => e = .returned (.bool (sipB a b c d)) ∧ New w w' := by
  go_enter Try.func25, Try.ntmps25
  go_wp2_with fail
  refine (siGood_any _ _ _ _ _).mono ?_
  rintro e w1 ⟨rfl, n1⟩
  obtain ⟨hc1, hf1, hz1⟩ := bcell n1
  (try simp at hz1)
  have z1_0 : w.heap.size < w1.heap.size := by omega
  have N1 := Lib.hid (show New w w1 from New.trans (by repeat (first | with_reducible exact New.refl _ | with_reducible assumption | refine New.drewN ?_ _ | refine New.drew ?_ | refine New.alloc ?_ _ | refine New.setCell ?_ (by first | omega | (simp; omega) | (simp; done)) _ | (refine New.trans ?_ (by assumption)))) n1); clear n1
  go_wp2
  go_ret
  exact ⟨rfl, N1.out⟩

theorem sIsSiphonLevel_any (w : World) (a b c d u : Int) (r : Bool) :
    Calls Try.prog 21 #[sipV a b c d, levV u r] w fun e w' => e = .returned (.tuple #[.bool (levB a b c d u), .bool (sipB a b c d)]) ∧ New w w' := by
  by_cases hs : sipB a b c d = true
  · go_enter Try.func21, Try.ntmps21
    go_wp2_with fail
    refine (siGood_any _ _ _ _ _).mono ?_
    rintro e w1 ⟨rfl, n1⟩
    obtain ⟨hc1, hf1, hz1⟩ := bcell n1
    (try simp at hz1)
    have z1_0 : w.heap.size < w1.heap.size := by omega
    have z1_1 : w.heap.size + 1 < w1.heap.size := by omega
    have N1 := Lib.hid (show New w w1 from New.trans (by repeat (first | with_reducible exact New.refl _ | with_reducible assumption | refine New.drewN ?_ _ | refine New.drew ?_ | refine New.alloc ?_ _ | refine New.setCell ?_ (by first | omega | (simp; omega) | (simp; done)) _ | (refine New.trans ?_ (by assumption)))) n1); clear n1
    go_wp2_with fail
    refine (siLevel_any _ _ _ _ _ _ _).mono ?_
    rintro e w2 ⟨rfl, n2⟩
    obtain ⟨hc2, hf2, hz2⟩ := bcell n2
    (try simp at hz2)
    have z2_0 : w.heap.size < w2.heap.size := by omega
    have z2_1 : w.heap.size + 1 < w2.heap.size := by omega
    have N2 := Lib.hid (show New w w2 from (N1.out.trans n2)); clear n2
    go_wp2
    go_ret2
    exact ⟨by rw [hs]; rfl, N2.out⟩
  · have hf : sipB a b c d = false := by simpa using hs
    go_enter Try.func21, Try.ntmps21
    go_wp2_with fail
    refine (siGood_any _ _ _ _ _).mono ?_
    rintro e w1 ⟨rfl, n1⟩
    obtain ⟨hc1, hf1, hz1⟩ := bcell n1
    (try simp at hz1)
    have z1_0 : w.heap.size < w1.heap.size := by omega
    have z1_1 : w.heap.size + 1 < w1.heap.size := by omega
    have N1 := Lib.hid (show New w w1 from New.trans (by repeat (first | with_reducible exact New.refl _ | with_reducible assumption | refine New.drewN ?_ _ | refine New.drew ?_ | refine New.alloc ?_ _ | refine New.setCell ?_ (by first | omega | (simp; omega) | (simp; done)) _ | (refine New.trans ?_ (by assumption)))) n1); clear n1
    go_wp2
    go_ret2
    exact ⟨by unfold levB; rw [hf]; rfl, N1.out⟩

theorem sCapacityOf_any (w : World) (a b c d : Int) :
    Calls Try.prog 23 #[sipV a b c d] w fun e w' => e = .returned (.tuple #[.int .i64 (capM a b c d), .bool (sipB a b c d)]) ∧ New w w' := by
  by_cases hs : sipB a b c d = true
  · have hs' := sipB_iff.1 hs
    unfold SipOk at hs'
    obtain ⟨⟨a0, a1⟩, ⟨b0, c0, c1⟩, d0, d1⟩ := hs'
    go_enter Try.func23, Try.ntmps23
    go_wp2_with fail
    refine (siGood_any _ _ _ _ _).mono ?_
    rintro e w1 ⟨rfl, n1⟩
    obtain ⟨hc1, hf1, hz1⟩ := bcell n1
    (try simp at hz1)
    have z1_0 : w.heap.size < w1.heap.size := by omega
    have N1 := Lib.hid (show New w w1 from New.trans (by repeat (first | with_reducible exact New.refl _ | with_reducible assumption | refine New.drewN ?_ _ | refine New.drew ?_ | refine New.alloc ?_ _ | refine New.setCell ?_ (by first | omega | (simp; omega) | (simp; done)) _ | (refine New.trans ?_ (by assumption)))) n1); clear n1
    go_wp2
    go_ret2
    exact ⟨by unfold capM; rw [if_pos hs, hs]; rfl, N1.out⟩
  · have hf : sipB a b c d = false := by simpa using hs
    go_enter Try.func23, Try.ntmps23
    go_wp2_with fail
    refine (siGood_any _ _ _ _ _).mono ?_
    rintro e w1 ⟨rfl, n1⟩
    obtain ⟨hc1, hf1, hz1⟩ := bcell n1
    (try simp at hz1)
    have z1_0 : w.heap.size < w1.heap.size := by omega
    have N1 := Lib.hid (show New w w1 from New.trans (by repeat (first | with_reducible exact New.refl _ | with_reducible assumption | refine New.drewN ?_ _ | refine New.drew ?_ | refine New.alloc ?_ _ | refine New.setCell ?_ (by first | omega | (simp; omega) | (simp; done)) _ | (refine New.trans ?_ (by assumption)))) n1); clear n1
    go_wp2
    go_ret2
    exact ⟨by unfold capM; rw [if_neg hs, hf]; rfl, N1.out⟩

set_option maxHeartbeats 2000000 in
theorem siTick_any (w : World) (a b c d u x : Int) (r : Bool) (hs : SipOk a b c d) (h0 : 0 ≤ u) (h1 : u ≤ a) (x0 : 0 ≤ x) (x1 : x ≤ 60) :
    Calls Try.prog 56 #[sipV a b c d, levV u r, .int .i64 x] w fun e w' => e = .returned (.tuple #[levV (tkH a b c d u x r) (tkR a b c d u x r), .int .i64 (tkO a b c d u x r), .int .i64 (tkS a u x)]) ∧ New w w' := by
  have hs' := hs
  unfold SipOk at hs'
  obtain ⟨⟨a0, a1⟩, ⟨b0, c0, c1⟩, d0, d1⟩ := hs'
  clear hs
  by_cases ho : a < u + x
  · cases r with
    | true =>
      go_enter Try.func56, Try.ntmps56
      go_wp2
      go_quiet ((first | (go_at_call 75; exact Calls.quiet_of_same ((l1Most_any _ _ _).mono fun e w9 h => ⟨h.1, h.2.symm⟩)) | (go_at_call 74; exact Calls.quiet_of_same ((l1Least_any _ _ _).mono fun e w9 h => ⟨h.1, h.2.symm⟩))))
      go_wp2
      all_goals
        refine bodyPost_ret (v := .tuple #[levV (tkH a b c d u x true) (tkR a b c d u x true), .int .i64 (tkO a b c d u x true), .int .i64 (tkS a u x)]) ?_ rfl ⟨rfl, (by repeat (first | with_reducible exact New.refl _ | with_reducible assumption | refine New.drewN ?_ _ | refine New.drew ?_ | refine New.alloc ?_ _ | refine New.setCell ?_ (by first | omega | (simp; omega) | (simp; done)) _ | (refine New.trans ?_ (by assumption))))⟩
        simp [results, Try.results56, go_sem]
        exact tk_run a b c d u x true (.inl rfl) (by omega) (by omega) (by omega) (by omega)
    | false =>
      by_cases hc : c ≤ a
      · skip
        go_enter Try.func56, Try.ntmps56
        go_wp2
        go_quiet ((first | (go_at_call 75; exact Calls.quiet_of_same ((l1Most_any _ _ _).mono fun e w9 h => ⟨h.1, h.2.symm⟩)) | (go_at_call 74; exact Calls.quiet_of_same ((l1Least_any _ _ _).mono fun e w9 h => ⟨h.1, h.2.symm⟩))))
        go_wp2
        all_goals
          refine bodyPost_ret (v := .tuple #[levV (tkH a b c d u x false) (tkR a b c d u x false), .int .i64 (tkO a b c d u x false), .int .i64 (tkS a u x)]) ?_ rfl ⟨rfl, (by repeat (first | with_reducible exact New.refl _ | with_reducible assumption | refine New.drewN ?_ _ | refine New.drew ?_ | refine New.alloc ?_ _ | refine New.setCell ?_ (by first | omega | (simp; omega) | (simp; done)) _ | (refine New.trans ?_ (by assumption))))⟩
          simp [results, Try.results56, go_sem]
          exact tk_run a b c d u x false (.inr (by omega)) (by omega) (by omega) (by omega) (by omega)
      · exact absurd c1 hc
  · cases r with
    | true =>
      go_enter Try.func56, Try.ntmps56
      go_wp2
      go_quiet ((first | (go_at_call 75; exact Calls.quiet_of_same ((l1Most_any _ _ _).mono fun e w9 h => ⟨h.1, h.2.symm⟩)) | (go_at_call 74; exact Calls.quiet_of_same ((l1Least_any _ _ _).mono fun e w9 h => ⟨h.1, h.2.symm⟩))))
      go_wp2
      all_goals
        refine bodyPost_ret (v := .tuple #[levV (tkH a b c d u x true) (tkR a b c d u x true), .int .i64 (tkO a b c d u x true), .int .i64 (tkS a u x)]) ?_ rfl ⟨rfl, (by repeat (first | with_reducible exact New.refl _ | with_reducible assumption | refine New.drewN ?_ _ | refine New.drew ?_ | refine New.alloc ?_ _ | refine New.setCell ?_ (by first | omega | (simp; omega) | (simp; done)) _ | (refine New.trans ?_ (by assumption))))⟩
        simp [results, Try.results56, go_sem]
        exact tk_run a b c d u x true (.inl rfl) (by omega) (by omega) (by omega) (by omega)
    | false =>
      by_cases hc : c ≤ u + x
      · skip
        go_enter Try.func56, Try.ntmps56
        go_wp2
        go_quiet ((first | (go_at_call 75; exact Calls.quiet_of_same ((l1Most_any _ _ _).mono fun e w9 h => ⟨h.1, h.2.symm⟩)) | (go_at_call 74; exact Calls.quiet_of_same ((l1Least_any _ _ _).mono fun e w9 h => ⟨h.1, h.2.symm⟩))))
        go_wp2
        all_goals
          refine bodyPost_ret (v := .tuple #[levV (tkH a b c d u x false) (tkR a b c d u x false), .int .i64 (tkO a b c d u x false), .int .i64 (tkS a u x)]) ?_ rfl ⟨rfl, (by repeat (first | with_reducible exact New.refl _ | with_reducible assumption | refine New.drewN ?_ _ | refine New.drew ?_ | refine New.alloc ?_ _ | refine New.setCell ?_ (by first | omega | (simp; omega) | (simp; done)) _ | (refine New.trans ?_ (by assumption))))⟩
          simp [results, Try.results56, go_sem]
          exact tk_run a b c d u x false (.inr (by omega)) (by omega) (by omega) (by omega) (by omega)
      · have hcf : decide (c ≤ u + x) = false := by simpa using hc
        go_enter Try.func56, Try.ntmps56
        go_wp2
        all_goals
          refine bodyPost_ret (v := .tuple #[levV (tkH a b c d u x false) (tkR a b c d u x false), .int .i64 (tkO a b c d u x false), .int .i64 (tkS a u x)]) ?_ rfl ⟨rfl, (by repeat (first | with_reducible exact New.refl _ | with_reducible assumption | refine New.drewN ?_ _ | refine New.drew ?_ | refine New.alloc ?_ _ | refine New.setCell ?_ (by first | omega | (simp; omega) | (simp; done)) _ | (refine New.trans ?_ (by assumption))))⟩
          simp [results, Try.results56, go_sem]
          obtain ⟨⟨q1, q2⟩, q3, q4⟩ := tk_idle a b c d u x false rfl (by omega) rfl rfl
          exact ⟨⟨by rw [← q1]; omega, q2.symm⟩, q3, by rw [← q4]; omega⟩

theorem sTickSiphon_any (w : World) (a b c d u x : Int) (r : Bool) :
    Calls Try.prog 19 #[sipV a b c d, levV u r, .int .i64 x] w fun e w' => e = .returned (.tuple #[levV (tiH a b c d u x r) (tiR a b c d u x r), .int .i64 (tiO a b c d u x r), .int .i64 (tiS a b c d u x), .bool (askB a b c d u x)]) ∧ New w w' := by
  by_cases hl : levB a b c d u = true
  · by_cases hx : inB 0 60 x = true
    · have hask : askB a b c d u x = true := askB_iff.2 ⟨(levB_iff.1 hl), inB_iff.1 hx⟩
      go_enter Try.func19, Try.ntmps19
      go_wp2_with fail
      refine (siLevel_any _ _ _ _ _ _ _).mono ?_
      rintro e w1 ⟨rfl, n1⟩
      obtain ⟨hc1, hf1, hz1⟩ := bcell n1
      (try simp at hz1)
      have z1_0 : w.heap.size < w1.heap.size := by omega
      have z1_1 : w.heap.size + 1 < w1.heap.size := by omega
      have z1_2 : w.heap.size + 1 + 1 < w1.heap.size := by omega
      have N1 := Lib.hid (show New w w1 from New.trans (by repeat (first | with_reducible exact New.refl _ | with_reducible assumption | refine New.drewN ?_ _ | refine New.drew ?_ | refine New.alloc ?_ _ | refine New.setCell ?_ (by first | omega | (simp; omega) | (simp; done)) _ | (refine New.trans ?_ (by assumption)))) n1); clear n1
      go_wp2_with fail
      refine (siInflow_any _ _).mono ?_
      rintro e w9 ⟨rfl, rfl⟩
      go_wp2_with fail
      refine (siTick_any _ _ _ _ _ _ _ _ (levB_iff.1 hl).1 (levB_iff.1 hl).2.1 (levB_iff.1 hl).2.2 (inB_iff.1 hx).1 (inB_iff.1 hx).2).mono ?_
      rintro e w2 ⟨rfl, n2⟩
      obtain ⟨hc2, hf2, hz2⟩ := bcell n2
      (try simp at hz2)
      have z2_0 : w.heap.size < w2.heap.size := by omega
      have z2_1 : w.heap.size + 1 < w2.heap.size := by omega
      have z2_2 : w.heap.size + 1 + 1 < w2.heap.size := by omega
      have N2 := Lib.hid (show New w w2 from (N1.out.trans n2)); clear n2
      go_wp2
      refine bodyPost_ret (v := .tuple #[levV (tkH a b c d u x r) (tkR a b c d u x r), .int .i64 (tkO a b c d u x r), .int .i64 (tkS a u x), .bool true]) ?_ rfl ⟨by unfold tiH tiR tiO tiS; rw [hask, if_pos rfl, if_pos rfl, if_pos rfl, if_pos rfl], (have nn := N2.out; (by repeat (first | with_reducible exact New.refl _ | with_reducible assumption | refine New.drewN ?_ _ | refine New.drew ?_ | refine New.alloc ?_ _ | refine New.setCell ?_ (by first | omega | (simp; omega) | (simp; done)) _ | (refine New.trans ?_ (by assumption)))))⟩
      simp [results, Try.results19, go_sem, hc2, hc1, z2_2, z1_2]
    · have hf : inB 0 60 x = false := by simpa using hx
      have hask : askB a b c d u x = false := by simp [askB, hf]
      go_enter Try.func19, Try.ntmps19
      go_wp2_with fail
      refine (siLevel_any _ _ _ _ _ _ _).mono ?_
      rintro e w1 ⟨rfl, n1⟩
      obtain ⟨hc1, hf1, hz1⟩ := bcell n1
      (try simp at hz1)
      have z1_0 : w.heap.size < w1.heap.size := by omega
      have z1_1 : w.heap.size + 1 < w1.heap.size := by omega
      have z1_2 : w.heap.size + 1 + 1 < w1.heap.size := by omega
      have N1 := Lib.hid (show New w w1 from New.trans (by repeat (first | with_reducible exact New.refl _ | with_reducible assumption | refine New.drewN ?_ _ | refine New.drew ?_ | refine New.alloc ?_ _ | refine New.setCell ?_ (by first | omega | (simp; omega) | (simp; done)) _ | (refine New.trans ?_ (by assumption)))) n1); clear n1
      go_wp2_with fail
      refine (siInflow_any _ _).mono ?_
      rintro e w9 ⟨rfl, rfl⟩
      go_wp2
      refine bodyPost_ret (v := .tuple #[levV (0) (false), .int .i64 (0), .int .i64 (0), .bool false]) ?_ rfl ⟨by unfold tiH tiR tiO tiS; rw [hask, if_neg (by decide), if_neg (by decide), if_neg (by decide), if_neg (by decide)], (have nn := N1.out; (by repeat (first | with_reducible exact New.refl _ | with_reducible assumption | refine New.drewN ?_ _ | refine New.drew ?_ | refine New.alloc ?_ _ | refine New.setCell ?_ (by first | omega | (simp; omega) | (simp; done)) _ | (refine New.trans ?_ (by assumption)))))⟩
      simp [results, Try.results19, go_sem, hc1]
  · have hf : levB a b c d u = false := by simpa using hl
    have hask : askB a b c d u x = false := by simp [askB, hf]
    go_enter Try.func19, Try.ntmps19
    go_wp2_with fail
    refine (siLevel_any _ _ _ _ _ _ _).mono ?_
    rintro e w1 ⟨rfl, n1⟩
    obtain ⟨hc1, hf1, hz1⟩ := bcell n1
    (try simp at hz1)
    have z1_0 : w.heap.size < w1.heap.size := by omega
    have z1_1 : w.heap.size + 1 < w1.heap.size := by omega
    have z1_2 : w.heap.size + 1 + 1 < w1.heap.size := by omega
    have N1 := Lib.hid (show New w w1 from New.trans (by repeat (first | with_reducible exact New.refl _ | with_reducible assumption | refine New.drewN ?_ _ | refine New.drew ?_ | refine New.alloc ?_ _ | refine New.setCell ?_ (by first | omega | (simp; omega) | (simp; done)) _ | (refine New.trans ?_ (by assumption)))) n1); clear n1
    go_wp2
    refine bodyPost_ret (v := .tuple #[levV (0) (false), .int .i64 (0), .int .i64 (0), .bool false]) ?_ rfl ⟨by unfold tiH tiR tiO tiS; rw [hask, if_neg (by decide), if_neg (by decide), if_neg (by decide), if_neg (by decide)], (have nn := N1.out; (by repeat (first | with_reducible exact New.refl _ | with_reducible assumption | refine New.drewN ?_ _ | refine New.drew ?_ | refine New.alloc ?_ _ | refine New.setCell ?_ (by first | omega | (simp; omega) | (simp; done)) _ | (refine New.trans ?_ (by assumption)))))⟩
    simp [results, Try.results19, go_sem, hc1]

theorem sFirstRun_any (w : World) (a b c d x : Int) :
    Calls Try.prog 36 #[sipV a b c d, .int .i64 x] w fun e w' => e = .returned (.tuple #[.int .i64 (firstM a b c d x), .bool (firstB a b c d x)]) ∧ New w w' := by
  by_cases hs : steadyB a b c d x = true
  · by_cases h0 : x = 0
    · subst h0
      have hb : firstB a b c d 0 = false := by simp [firstB]
      go_enter Try.func36, Try.ntmps36
      go_wp2_with fail
      refine (siSteady_any _ _ _ _ _ _).mono ?_
      rintro e w1 ⟨rfl, n1⟩
      obtain ⟨hc1, hf1, hz1⟩ := bcell n1
      (try simp at hz1)
      have z1_0 : w.heap.size < w1.heap.size := by omega
      have N1 := Lib.hid (show New w w1 from New.trans (by repeat (first | with_reducible exact New.refl _ | with_reducible assumption | refine New.drewN ?_ _ | refine New.drew ?_ | refine New.alloc ?_ _ | refine New.setCell ?_ (by first | omega | (simp; omega) | (simp; done)) _ | (refine New.trans ?_ (by assumption)))) n1); clear n1
      go_wp2
      go_ret2
      exact ⟨by unfold firstM; rw [hb]; rfl, N1.out⟩
    · have hb : firstB a b c d x = true := by unfold firstB steadyB; rw [(show (sipB a b c d && inB 0 60 x) = true from hs)]; simpa using h0
      obtain ⟨⟨a0, a1⟩, ⟨b0, c0, c1⟩, d0, d1⟩ := (steadyB_iff.1 hs).1
      obtain ⟨x0, x1⟩ := (steadyB_iff.1 hs).2
      have xp : 0 < x := by omega
      have hq0 : 0 ≤ (c + x - 1) / x := Int.ediv_nonneg (by omega) (by omega)
      have hq1 : (c + x - 1) / x ≤ c + x - 1 := Int.ediv_le_self _ (by omega)
      go_enter Try.func36, Try.ntmps36
      go_wp2_with fail
      refine (siSteady_any _ _ _ _ _ _).mono ?_
      rintro e w1 ⟨rfl, n1⟩
      obtain ⟨hc1, hf1, hz1⟩ := bcell n1
      (try simp at hz1)
      have z1_0 : w.heap.size < w1.heap.size := by omega
      have N1 := Lib.hid (show New w w1 from New.trans (by repeat (first | with_reducible exact New.refl _ | with_reducible assumption | refine New.drewN ?_ _ | refine New.drew ?_ | refine New.alloc ?_ _ | refine New.setCell ?_ (by first | omega | (simp; omega) | (simp; done)) _ | (refine New.trans ?_ (by assumption)))) n1); clear n1
      go_wp2
      go_ret2
      exact ⟨by unfold firstM; rw [hb]; rfl, N1.out⟩
  · have hf : steadyB a b c d x = false := by simpa using hs
    have hb : firstB a b c d x = false := by unfold firstB; rw [hf]; rfl
    go_enter Try.func36, Try.ntmps36
    go_wp2_with fail
    refine (siSteady_any _ _ _ _ _ _).mono ?_
    rintro e w1 ⟨rfl, n1⟩
    obtain ⟨hc1, hf1, hz1⟩ := bcell n1
    (try simp at hz1)
    have z1_0 : w.heap.size < w1.heap.size := by omega
    have N1 := Lib.hid (show New w w1 from New.trans (by repeat (first | with_reducible exact New.refl _ | with_reducible assumption | refine New.drewN ?_ _ | refine New.drew ?_ | refine New.alloc ?_ _ | refine New.setCell ?_ (by first | omega | (simp; omega) | (simp; done)) _ | (refine New.trans ?_ (by assumption)))) n1); clear n1
    go_wp2
    go_ret2
    exact ⟨by unfold firstM; rw [hb]; rfl, N1.out⟩
end Go.Proofs.Ytfhpmihjfojbnaa
