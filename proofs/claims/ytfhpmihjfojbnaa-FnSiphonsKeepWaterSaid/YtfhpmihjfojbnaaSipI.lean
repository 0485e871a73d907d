/- The program's functions on one siphon. -/
import Derived.Test.YtfhpmihjfojbnaaSip
namespace Go.Proofs.Ytfhpmihjfojbnaa
open Go.RowKit

theorem iIsSiphon_any (w : World) (a b c d : Int) :
    Calls Try.prog 24 #[sipV a b c d] w fun e w' => e = .returned (.bool (sipB a b c d)) ∧ New w w' := by
  by_cases h1 : 1 ≤ a
  · by_cases h2 : a ≤ 60
    · by_cases h3 : 0 ≤ b
      · by_cases h4 : b < c
        · by_cases h5 : c ≤ a
          · by_cases h6 : 1 ≤ d
            · by_cases h7 : d ≤ 60
              · go_enter Try.func24, Try.ntmps24
                go_wp2
                go_ret
                exact ⟨ret_bool (sipB_iff.2 ⟨⟨h1, h2⟩, ⟨h3, h4, h5⟩, h6, h7⟩).symm, (by repeat (first | with_reducible exact New.refl _ | with_reducible assumption | refine New.drewN ?_ _ | refine New.drew ?_ | refine New.alloc ?_ _ | refine New.setCell ?_ (by first | omega | (simp; omega) | (simp; done)) _ | (refine New.trans ?_ (by assumption))))⟩
              · have h7f : decide (d ≤ 60) = false := by simpa using h7
                go_enter Try.func24, Try.ntmps24
                go_wp2
                go_ret
                exact ⟨ret_bool (sipB_false.2 fun h => by unfold SipOk at h; omega).symm, (by repeat (first | with_reducible exact New.refl _ | with_reducible assumption | refine New.drewN ?_ _ | refine New.drew ?_ | refine New.alloc ?_ _ | refine New.setCell ?_ (by first | omega | (simp; omega) | (simp; done)) _ | (refine New.trans ?_ (by assumption))))⟩
            · have h6f : decide (1 ≤ d) = false := by simpa using h6
              go_enter Try.func24, Try.ntmps24
              go_wp2
              go_ret
              exact ⟨ret_bool (sipB_false.2 fun h => by unfold SipOk at h; omega).symm, (by repeat (first | with_reducible exact New.refl _ | with_reducible assumption | refine New.drewN ?_ _ | refine New.drew ?_ | refine New.alloc ?_ _ | refine New.setCell ?_ (by first | omega | (simp; omega) | (simp; done)) _ | (refine New.trans ?_ (by assumption))))⟩
          · have h5f : decide (c ≤ a) = false := by simpa using h5
            go_enter Try.func24, Try.ntmps24
            go_wp2
            go_ret
            exact ⟨ret_bool (sipB_false.2 fun h => by unfold SipOk at h; omega).symm, (by repeat (first | with_reducible exact New.refl _ | with_reducible assumption | refine New.drewN ?_ _ | refine New.drew ?_ | refine New.alloc ?_ _ | refine New.setCell ?_ (by first | omega | (simp; omega) | (simp; done)) _ | (refine New.trans ?_ (by assumption))))⟩
        · have h4f : decide (b < c) = false := by simpa using h4
          go_enter Try.func24, Try.ntmps24
          go_wp2
          go_ret
          exact ⟨ret_bool (sipB_false.2 fun h => by unfold SipOk at h; omega).symm, (by repeat (first | with_reducible exact New.refl _ | with_reducible assumption | refine New.drewN ?_ _ | refine New.drew ?_ | refine New.alloc ?_ _ | refine New.setCell ?_ (by first | omega | (simp; omega) | (simp; done)) _ | (refine New.trans ?_ (by assumption))))⟩
      · have h3f : decide (0 ≤ b) = false := by simpa using h3
        go_enter Try.func24, Try.ntmps24
        go_wp2
        go_ret
        exact ⟨ret_bool (sipB_false.2 fun h => by unfold SipOk at h; omega).symm, (by repeat (first | with_reducible exact New.refl _ | with_reducible assumption | refine New.drewN ?_ _ | refine New.drew ?_ | refine New.alloc ?_ _ | refine New.setCell ?_ (by first | omega | (simp; omega) | (simp; done)) _ | (refine New.trans ?_ (by assumption))))⟩
    · have h2f : decide (a ≤ 60) = false := by simpa using h2
      go_enter Try.func24, Try.ntmps24
      go_wp2
      go_ret
      exact ⟨ret_bool (sipB_false.2 fun h => by unfold SipOk at h; omega).symm, (by repeat (first | with_reducible exact New.refl _ | with_reducible assumption | refine New.drewN ?_ _ | refine New.drew ?_ | refine New.alloc ?_ _ | refine New.setCell ?_ (by first | omega | (simp; omega) | (simp; done)) _ | (refine New.trans ?_ (by assumption))))⟩
  · have h1f : decide (1 ≤ a) = false := by simpa using h1
    go_enter Try.func24, Try.ntmps24
    go_wp2
    go_ret
    exact ⟨ret_bool (sipB_false.2 fun h => by unfold SipOk at h; omega).symm, (by repeat (first | with_reducible exact New.refl _ | with_reducible assumption | refine New.drewN ?_ _ | refine New.drew ?_ | refine New.alloc ?_ _ | refine New.setCell ?_ (by first | omega | (simp; omega) | (simp; done)) _ | (refine New.trans ?_ (by assumption))))⟩

theorem isLevelIn_any (w : World) (a b c d h : Int) (r : Bool) :
    Calls Try.prog 50 #[sipV a b c d, levV h r] w fun e w' => e = .returned (.bool (inB 0 a h)) ∧ New w w' := by
  by_cases h1 : 0 ≤ h
  · go_enter Try.func50, Try.ntmps50
    go_wp2
    go_ret
    exact ⟨ret_bool (by simp [inB, h1]), (by repeat (first | with_reducible exact New.refl _ | with_reducible assumption | refine New.drewN ?_ _ | refine New.drew ?_ | refine New.alloc ?_ _ | refine New.setCell ?_ (by first | omega | (simp; omega) | (simp; done)) _ | (refine New.trans ?_ (by assumption))))⟩
  · have h1f : decide (0 ≤ h) = false := by simpa using h1
    go_enter Try.func50, Try.ntmps50
    go_wp2
    go_ret
    exact ⟨ret_bool (by unfold inB; rw [h1f]; rfl), (by repeat (first | with_reducible exact New.refl _ | with_reducible assumption | refine New.drewN ?_ _ | refine New.drew ?_ | refine New.alloc ?_ _ | refine New.setCell ?_ (by first | omega | (simp; omega) | (simp; done)) _ | (refine New.trans ?_ (by assumption))))⟩

theorem isInflow_any (w : World) (x : Int) :
    Calls Try.prog 51 #[.int .i64 x] w fun e w' => e = .returned (.bool (inB 0 60 x)) ∧ w = w' := by
  by_cases h1 : 0 ≤ x
  · go_enter Try.func51, Try.ntmps51
    go_wp2
    go_ret
    exact ⟨ret_bool (by simp [inB, h1]), rfl⟩
  · have h1f : decide (0 ≤ x) = false := by simpa using h1
    go_enter Try.func51, Try.ntmps51
    go_wp2
    go_ret
    exact ⟨ret_bool (by unfold inB; rw [h1f]; rfl), rfl⟩

theorem siphonTick_any (w : World) (a b c d u x : Int) (r : Bool) (hs : SipOk a b c d) (h0 : 0 ≤ u) (h1 : u ≤ a) (x0 : 0 ≤ x) (x1 : x ≤ 60) :
    Calls Try.prog 52 #[sipV a b c d, levV u r, .int .i64 x] w fun e w' => e = .returned (.tuple #[levV (tkH a b c d u x r) (tkR a b c d u x r), .int .i64 (tkO a b c d u x r), .int .i64 (tkS a u x)]) ∧ New w w' := by
  have hs' := hs
  unfold SipOk at hs'
  obtain ⟨⟨a0, a1⟩, ⟨b0, c0, c1⟩, d0, d1⟩ := hs'
  clear hs
  go_enter Try.func52, Try.ntmps52
  go_wp2
  all_goals
    refine bodyPost_ret (v := .tuple #[levV (tkH a b c d u x r) (tkR a b c d u x r), .int .i64 (tkO a b c d u x r), .int .i64 (tkS a u x)]) ?_ rfl ⟨rfl, (by repeat (first | with_reducible exact New.refl _ | with_reducible assumption | refine New.drewN ?_ _ | refine New.drew ?_ | refine New.alloc ?_ _ | refine New.setCell ?_ (by first | omega | (simp; omega) | (simp; done)) _ | (refine New.trans ?_ (by assumption))))⟩
  all_goals simp [results, Try.results52, go_sem]
  all_goals first
    | exact tk_run a b c d u x r (.inr (by omega)) (by omega) (by omega) (by omega) (by omega)
    | exact tk_run a b c d u x r (.inl (by simp_all)) (by omega) (by omega) (by omega) (by omega)
    | exact tk_idle a b c d u x r (by simp_all) (by omega) (by omega) (by omega)

theorem iIsSiphonLevel_any (w : World) (a b c d u : Int) (r : Bool) :
    Calls Try.prog 17 #[sipV a b c d, levV u r] w fun e w' => e = .returned (.tuple #[.bool (levB a b c d u), .bool (sipB a b c d)]) ∧ New w w' := by
  by_cases hs : sipB a b c d = true
  · go_enter Try.func17, Try.ntmps17
    go_wp2_with fail
    refine (iIsSiphon_any _ _ _ _ _).mono ?_
    rintro e w1 ⟨rfl, n1⟩
    obtain ⟨hc1, hf1, hz1⟩ := bcell n1
    (try simp at hz1)
    have z1_0 : w.heap.size < w1.heap.size := by omega
    have z1_1 : w.heap.size + 1 < w1.heap.size := by omega
    have N1 := Lib.hid (show New w w1 from New.trans (by repeat (first | with_reducible exact New.refl _ | with_reducible assumption | refine New.drewN ?_ _ | refine New.drew ?_ | refine New.alloc ?_ _ | refine New.setCell ?_ (by first | omega | (simp; omega) | (simp; done)) _ | (refine New.trans ?_ (by assumption)))) n1); clear n1
    go_wp2_with fail
    refine (isLevelIn_any _ _ _ _ _ _ _).mono ?_
    rintro e w2 ⟨rfl, n2⟩
    obtain ⟨hc2, hf2, hz2⟩ := bcell n2
    (try simp at hz2)
    have z2_0 : w.heap.size < w2.heap.size := by omega
    have z2_1 : w.heap.size + 1 < w2.heap.size := by omega
    have N2 := Lib.hid (show New w w2 from (N1.out.trans n2)); clear n2
    go_wp2
    go_ret2
    exact ⟨by simp [levB, hs], N2.out⟩
  · have hf : sipB a b c d = false := by simpa using hs
    go_enter Try.func17, Try.ntmps17
    go_wp2_with fail
    refine (iIsSiphon_any _ _ _ _ _).mono ?_
    rintro e w1 ⟨rfl, n1⟩
    obtain ⟨hc1, hf1, hz1⟩ := bcell n1
    (try simp at hz1)
    have z1_0 : w.heap.size < w1.heap.size := by omega
    have z1_1 : w.heap.size + 1 < w1.heap.size := by omega
    have N1 := Lib.hid (show New w w1 from New.trans (by repeat (first | with_reducible exact New.refl _ | with_reducible assumption | refine New.drewN ?_ _ | refine New.drew ?_ | refine New.alloc ?_ _ | refine New.setCell ?_ (by first | omega | (simp; omega) | (simp; done)) _ | (refine New.trans ?_ (by assumption)))) n1); clear n1
    go_wp2
    go_ret2
    exact ⟨by simp [levB, hf], N1.out⟩

theorem iCapacityOf_any (w : World) (a b c d : Int) :
    Calls Try.prog 22 #[sipV a b c d] w fun e w' => e = .returned (.tuple #[.int .i64 (capM a b c d), .bool (sipB a b c d)]) ∧ New w w' := by
  by_cases hs : sipB a b c d = true
  · have hs' := sipB_iff.1 hs
    unfold SipOk at hs'
    obtain ⟨⟨a0, a1⟩, ⟨b0, c0, c1⟩, d0, d1⟩ := hs'
    go_enter Try.func22, Try.ntmps22
    go_wp2_with fail
    refine (iIsSiphon_any _ _ _ _ _).mono ?_
    rintro e w1 ⟨rfl, n1⟩
    obtain ⟨hc1, hf1, hz1⟩ := bcell n1
    (try simp at hz1)
    have z1_0 : w.heap.size < w1.heap.size := by omega
    have N1 := Lib.hid (show New w w1 from New.trans (by repeat (first | with_reducible exact New.refl _ | with_reducible assumption | refine New.drewN ?_ _ | refine New.drew ?_ | refine New.alloc ?_ _ | refine New.setCell ?_ (by first | omega | (simp; omega) | (simp; done)) _ | (refine New.trans ?_ (by assumption)))) n1); clear n1
    go_wp2
    go_ret2
    exact ⟨by unfold capM; rw [if_pos hs, hs]; rfl, N1.out⟩
  · have hf : sipB a b c d = false := by simpa using hs
    go_enter Try.func22, Try.ntmps22
    go_wp2_with fail
    refine (iIsSiphon_any _ _ _ _ _).mono ?_
    rintro e w1 ⟨rfl, n1⟩
    obtain ⟨hc1, hf1, hz1⟩ := bcell n1
    (try simp at hz1)
    have z1_0 : w.heap.size < w1.heap.size := by omega
    have N1 := Lib.hid (show New w w1 from New.trans (by repeat (first | with_reducible exact New.refl _ | with_reducible assumption | refine New.drewN ?_ _ | refine New.drew ?_ | refine New.alloc ?_ _ | refine New.setCell ?_ (by first | omega | (simp; omega) | (simp; done)) _ | (refine New.trans ?_ (by assumption)))) n1); clear n1
    go_wp2
    go_ret2
    exact ⟨by unfold capM; rw [if_neg hs, hf]; rfl, N1.out⟩

theorem iTickSiphon_any (w : World) (a b c d u x : Int) (r : Bool) :
    Calls Try.prog 16 #[sipV a b c d, levV u r, .int .i64 x] w fun e w' => e = .returned (.tuple #[levV (tiH a b c d u x r) (tiR a b c d u x r), .int .i64 (tiO a b c d u x r), .int .i64 (tiS a b c d u x), .bool (askB a b c d u x)]) ∧ New w w' := by
  by_cases hs : sipB a b c d = true
  · by_cases hl : inB 0 a u = true
    · by_cases hx : inB 0 60 x = true
      · have hask : askB a b c d u x = true := askB_iff.2 ⟨⟨sipB_iff.1 hs, inB_iff.1 hl⟩, inB_iff.1 hx⟩
        go_enter Try.func16, Try.ntmps16
        go_wp2_with fail
        refine (iIsSiphon_any _ _ _ _ _).mono ?_
        rintro e w1 ⟨rfl, n1⟩
        obtain ⟨hc1, hf1, hz1⟩ := bcell n1
        (try simp at hz1)
        have z1_0 : w.heap.size < w1.heap.size := by omega
        have z1_1 : w.heap.size + 1 < w1.heap.size := by omega
        have z1_2 : w.heap.size + 1 + 1 < w1.heap.size := by omega
        have N1 := Lib.hid (show New w w1 from New.trans (by repeat (first | with_reducible exact New.refl _ | with_reducible assumption | refine New.drewN ?_ _ | refine New.drew ?_ | refine New.alloc ?_ _ | refine New.setCell ?_ (by first | omega | (simp; omega) | (simp; done)) _ | (refine New.trans ?_ (by assumption)))) n1); clear n1
        go_wp2_with fail
        refine (isLevelIn_any _ _ _ _ _ _ _).mono ?_
        rintro e w2 ⟨rfl, n2⟩
        obtain ⟨hc2, hf2, hz2⟩ := bcell n2
        (try simp at hz2)
        have z2_0 : w.heap.size < w2.heap.size := by omega
        have z2_1 : w.heap.size + 1 < w2.heap.size := by omega
        have z2_2 : w.heap.size + 1 + 1 < w2.heap.size := by omega
        have N2 := Lib.hid (show New w w2 from (N1.out.trans n2)); clear n2
        go_wp2_with fail
        refine (isInflow_any _ _).mono ?_
        rintro e w9 ⟨rfl, rfl⟩
        go_wp2_with fail
        refine (siphonTick_any _ _ _ _ _ _ _ _ (sipB_iff.1 hs) (inB_iff.1 hl).1 (inB_iff.1 hl).2 (inB_iff.1 hx).1 (inB_iff.1 hx).2).mono ?_
        rintro e w3 ⟨rfl, n3⟩
        obtain ⟨hc3, hf3, hz3⟩ := bcell n3
        (try simp at hz3)
        have z3_0 : w.heap.size < w3.heap.size := by omega
        have z3_1 : w.heap.size + 1 < w3.heap.size := by omega
        have z3_2 : w.heap.size + 1 + 1 < w3.heap.size := by omega
        have N3 := Lib.hid (show New w w3 from (N2.out.trans n3)); clear n3
        go_wp2
        refine bodyPost_ret (v := .tuple #[levV (tkH a b c d u x r) (tkR a b c d u x r), .int .i64 (tkO a b c d u x r), .int .i64 (tkS a u x), .bool true]) ?_ rfl ⟨by unfold tiH tiR tiO tiS; rw [hask, if_pos rfl, if_pos rfl, if_pos rfl, if_pos rfl], (have nn := N3.out; (by repeat (first | with_reducible exact New.refl _ | with_reducible assumption | refine New.drewN ?_ _ | refine New.drew ?_ | refine New.alloc ?_ _ | refine New.setCell ?_ (by first | omega | (simp; omega) | (simp; done)) _ | (refine New.trans ?_ (by assumption)))))⟩
        simp [results, Try.results16, go_sem, hc3, hc2, hc1, z3_2, z2_2, z1_2]
      · have hf : inB 0 60 x = false := by simpa using hx
        have hask : askB a b c d u x = false := by simp [askB, hf]
        go_enter Try.func16, Try.ntmps16
        go_wp2_with fail
        refine (iIsSiphon_any _ _ _ _ _).mono ?_
        rintro e w1 ⟨rfl, n1⟩
        obtain ⟨hc1, hf1, hz1⟩ := bcell n1
        (try simp at hz1)
        have z1_0 : w.heap.size < w1.heap.size := by omega
        have z1_1 : w.heap.size + 1 < w1.heap.size := by omega
        have z1_2 : w.heap.size + 1 + 1 < w1.heap.size := by omega
        have N1 := Lib.hid (show New w w1 from New.trans (by repeat (first | with_reducible exact New.refl _ | with_reducible assumption | refine New.drewN ?_ _ | refine New.drew ?_ | refine New.alloc ?_ _ | refine New.setCell ?_ (by first | omega | (simp; omega) | (simp; done)) _ | (refine New.trans ?_ (by assumption)))) n1); clear n1
        go_wp2_with fail
        refine (isLevelIn_any _ _ _ _ _ _ _).mono ?_
        rintro e w2 ⟨rfl, n2⟩
        obtain ⟨hc2, hf2, hz2⟩ := bcell n2
        (try simp at hz2)
        have z2_0 : w.heap.size < w2.heap.size := by omega
        have z2_1 : w.heap.size + 1 < w2.heap.size := by omega
        have z2_2 : w.heap.size + 1 + 1 < w2.heap.size := by omega
        have N2 := Lib.hid (show New w w2 from (N1.out.trans n2)); clear n2
        go_wp2_with fail
        refine (isInflow_any _ _).mono ?_
        rintro e w9 ⟨rfl, rfl⟩
        go_wp2
        refine bodyPost_ret (v := .tuple #[levV (0) (false), .int .i64 (0), .int .i64 (0), .bool false]) ?_ rfl ⟨by unfold tiH tiR tiO tiS; rw [hask, if_neg (by decide), if_neg (by decide), if_neg (by decide), if_neg (by decide)], (have nn := N2.out; (by repeat (first | with_reducible exact New.refl _ | with_reducible assumption | refine New.drewN ?_ _ | refine New.drew ?_ | refine New.alloc ?_ _ | refine New.setCell ?_ (by first | omega | (simp; omega) | (simp; done)) _ | (refine New.trans ?_ (by assumption)))))⟩
        simp [results, Try.results16, go_sem, hc2, hc1, z1_2]
    · have hf : inB 0 a u = false := by simpa using hl
      have hask : askB a b c d u x = false := by simp [askB, levB, hf]
      go_enter Try.func16, Try.ntmps16
      go_wp2_with fail
      refine (iIsSiphon_any _ _ _ _ _).mono ?_
      rintro e w1 ⟨rfl, n1⟩
      obtain ⟨hc1, hf1, hz1⟩ := bcell n1
      (try simp at hz1)
      have z1_0 : w.heap.size < w1.heap.size := by omega
      have z1_1 : w.heap.size + 1 < w1.heap.size := by omega
      have z1_2 : w.heap.size + 1 + 1 < w1.heap.size := by omega
      have N1 := Lib.hid (show New w w1 from New.trans (by repeat (first | with_reducible exact New.refl _ | with_reducible assumption | refine New.drewN ?_ _ | refine New.drew ?_ | refine New.alloc ?_ _ | refine New.setCell ?_ (by first | omega | (simp; omega) | (simp; done)) _ | (refine New.trans ?_ (by assumption)))) n1); clear n1
      go_wp2_with fail
      refine (isLevelIn_any _ _ _ _ _ _ _).mono ?_
      rintro e w2 ⟨rfl, n2⟩
      obtain ⟨hc2, hf2, hz2⟩ := bcell n2
      (try simp at hz2)
      have z2_0 : w.heap.size < w2.heap.size := by omega
      have z2_1 : w.heap.size + 1 < w2.heap.size := by omega
      have z2_2 : w.heap.size + 1 + 1 < w2.heap.size := by omega
      have N2 := Lib.hid (show New w w2 from (N1.out.trans n2)); clear n2
      go_wp2
      refine bodyPost_ret (v := .tuple #[levV (0) (false), .int .i64 (0), .int .i64 (0), .bool false]) ?_ rfl ⟨by unfold tiH tiR tiO tiS; rw [hask, if_neg (by decide), if_neg (by decide), if_neg (by decide), if_neg (by decide)], (have nn := N2.out; (by repeat (first | with_reducible exact New.refl _ | with_reducible assumption | refine New.drewN ?_ _ | refine New.drew ?_ | refine New.alloc ?_ _ | refine New.setCell ?_ (by first | omega | (simp; omega) | (simp; done)) _ | (refine New.trans ?_ (by assumption)))))⟩
      simp [results, Try.results16, go_sem, hc2, hc1, z1_2]
  · have hf : sipB a b c d = false := by simpa using hs
    have hask : askB a b c d u x = false := by simp [askB, levB, hf]
    go_enter Try.func16, Try.ntmps16
    go_wp2_with fail
    refine (iIsSiphon_any _ _ _ _ _).mono ?_
    rintro e w1 ⟨rfl, n1⟩
    obtain ⟨hc1, hf1, hz1⟩ := bcell n1
    (try simp at hz1)
    have z1_0 : w.heap.size < w1.heap.size := by omega
    have z1_1 : w.heap.size + 1 < w1.heap.size := by omega
    have z1_2 : w.heap.size + 1 + 1 < w1.heap.size := by omega
    have N1 := Lib.hid (show New w w1 from New.trans (by repeat (first | with_reducible exact New.refl _ | with_reducible assumption | refine New.drewN ?_ _ | refine New.drew ?_ | refine New.alloc ?_ _ | refine New.setCell ?_ (by first | omega | (simp; omega) | (simp; done)) _ | (refine New.trans ?_ (by assumption)))) n1); clear n1
    go_wp2
    refine bodyPost_ret (v := .tuple #[levV (0) (false), .int .i64 (0), .int .i64 (0), .bool false]) ?_ rfl ⟨by unfold tiH tiR tiO tiS; rw [hask, if_neg (by decide), if_neg (by decide), if_neg (by decide), if_neg (by decide)], (have nn := N1.out; (by repeat (first | with_reducible exact New.refl _ | with_reducible assumption | refine New.drewN ?_ _ | refine New.drew ?_ | refine New.alloc ?_ _ | refine New.setCell ?_ (by first | omega | (simp; omega) | (simp; done)) _ | (refine New.trans ?_ (by assumption)))))⟩
    simp [results, Try.results16, go_sem, hc1]

theorem iFirstRun_any (w : World) (a b c d x : Int) :
    Calls Try.prog 35 #[sipV a b c d, .int .i64 x] w fun e w' => e = .returned (.tuple #[.int .i64 (firstM a b c d x), .bool (firstB a b c d x)]) ∧ New w w' := by
  by_cases hs : sipB a b c d = true
  · by_cases hx : inB 0 60 x = true
    · by_cases h0 : x = 0
      · subst h0
        have hb : firstB a b c d 0 = false := by simp [firstB]
        go_enter Try.func35, Try.ntmps35
        go_wp2_with fail
        refine (iIsSiphon_any _ _ _ _ _).mono ?_
        rintro e w1 ⟨rfl, n1⟩
        obtain ⟨hc1, hf1, hz1⟩ := bcell n1
        (try simp at hz1)
        have z1_0 : w.heap.size < w1.heap.size := by omega
        have N1 := Lib.hid (show New w w1 from New.trans (by repeat (first | with_reducible exact New.refl _ | with_reducible assumption | refine New.drewN ?_ _ | refine New.drew ?_ | refine New.alloc ?_ _ | refine New.setCell ?_ (by first | omega | (simp; omega) | (simp; done)) _ | (refine New.trans ?_ (by assumption)))) n1); clear n1
        go_wp2_with fail
        refine (isInflow_any _ _).mono ?_
        rintro e w9 ⟨rfl, rfl⟩
        go_wp2
        go_ret2
        exact ⟨by unfold firstM; rw [hb]; rfl, N1.out⟩
      · have hb : firstB a b c d x = true := by unfold firstB steadyB; rw [hs, hx]; simpa using h0
        obtain ⟨⟨a0, a1⟩, ⟨b0, c0, c1⟩, d0, d1⟩ := sipB_iff.1 hs
        obtain ⟨x0, x1⟩ := inB_iff.1 hx
        have xp : 0 < x := by omega
        have hq0 : 0 ≤ (c + x - 1) / x := Int.ediv_nonneg (by omega) (by omega)
        have hq1 : (c + x - 1) / x ≤ c + x - 1 := Int.ediv_le_self _ (by omega)
        go_enter Try.func35, Try.ntmps35
        go_wp2_with fail
        refine (iIsSiphon_any _ _ _ _ _).mono ?_
        rintro e w1 ⟨rfl, n1⟩
        obtain ⟨hc1, hf1, hz1⟩ := bcell n1
        (try simp at hz1)
        have z1_0 : w.heap.size < w1.heap.size := by omega
        have N1 := Lib.hid (show New w w1 from New.trans (by repeat (first | with_reducible exact New.refl _ | with_reducible assumption | refine New.drewN ?_ _ | refine New.drew ?_ | refine New.alloc ?_ _ | refine New.setCell ?_ (by first | omega | (simp; omega) | (simp; done)) _ | (refine New.trans ?_ (by assumption)))) n1); clear n1
        go_wp2_with fail
        refine (isInflow_any _ _).mono ?_
        rintro e w9 ⟨rfl, rfl⟩
        go_wp2
        go_ret2
        exact ⟨by unfold firstM; rw [hb]; rfl, N1.out⟩
    · have hf : inB 0 60 x = false := by simpa using hx
      have hb : firstB a b c d x = false := by simp [firstB, steadyB, hf]
      go_enter Try.func35, Try.ntmps35
      go_wp2_with fail
      refine (iIsSiphon_any _ _ _ _ _).mono ?_
      rintro e w1 ⟨rfl, n1⟩
      obtain ⟨hc1, hf1, hz1⟩ := bcell n1
      (try simp at hz1)
      have z1_0 : w.heap.size < w1.heap.size := by omega
      have N1 := Lib.hid (show New w w1 from New.trans (by repeat (first | with_reducible exact New.refl _ | with_reducible assumption | refine New.drewN ?_ _ | refine New.drew ?_ | refine New.alloc ?_ _ | refine New.setCell ?_ (by first | omega | (simp; omega) | (simp; done)) _ | (refine New.trans ?_ (by assumption)))) n1); clear n1
      go_wp2_with fail
      refine (isInflow_any _ _).mono ?_
      rintro e w9 ⟨rfl, rfl⟩
      go_wp2
      go_ret2
      exact ⟨by unfold firstM; rw [hb]; rfl, N1.out⟩
  · have hf : sipB a b c d = false := by simpa using hs
    have hb : firstB a b c d x = false := by simp [firstB, steadyB, hf]
    go_enter Try.func35, Try.ntmps35
    go_wp2_with fail
    refine (iIsSiphon_any _ _ _ _ _).mono ?_
    rintro e w1 ⟨rfl, n1⟩
    obtain ⟨hc1, hf1, hz1⟩ := bcell n1
    (try simp at hz1)
    have z1_0 : w.heap.size < w1.heap.size := by omega
    have N1 := Lib.hid (show New w w1 from New.trans (by repeat (first | with_reducible exact New.refl _ | with_reducible assumption | refine New.drewN ?_ _ | refine New.drew ?_ | refine New.alloc ?_ _ | refine New.setCell ?_ (by first | omega | (simp; omega) | (simp; done)) _ | (refine New.trans ?_ (by assumption)))) n1); clear n1
    go_wp2
    go_ret2
    exact ⟨by unfold firstM; rw [hb]; rfl, N1.out⟩
end Go.Proofs.Ytfhpmihjfojbnaa
