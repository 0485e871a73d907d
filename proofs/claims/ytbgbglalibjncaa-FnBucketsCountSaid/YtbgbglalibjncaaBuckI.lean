/- The program's functions on buckets. -/
import Derived.Test.YtbgbglalibjncaaBuck
import Derived.WalkMore
import Derived.ScopeJumps
import Derived.Test.YtbgbglalibjncaaRows2b
import Derived.Laws.CopyOwn
namespace Go.Proofs.Ytbgbglalibjncaa
open Go.RowKit

theorem areWithin_any (w : World) (aa : Option Addr) (n ca : Nat) (l : List Int) (lo hi : Int) (ha : Ints w aa n ca l) :
    Calls Try.prog 37 #[.slice aa n ca, .int .i64 lo, .int .i64 hi] w fun e w' => e = .returned (.bool (allB lo hi l)) ∧ w = w' := by
  have HA := Lib.hid ha; clear ha
  have hm := HA.out.2.2.1
  go_enter Try.func37, Try.ntmps37
  go_wp2
  go_loop [11] (fun i => ∃ k : Nat, k ≤ n ∧ i = .int .i64 k ∧ ∀ j, j < k → inB lo hi (l[j]?.getD 0) = true) (fun i => n - (intOf i).toNat)
  case atStart => exact ⟨0, Nat.zero_le _, rfl, fun j hj => absurd hj (by omega)⟩
  case round =>
    obtain ⟨k, hk, rfl, hpre⟩ := hrel
    have HP := Lib.hid hpre; clear hpre
    by_cases hlt : k < n
    · obtain ⟨b, o, rfl, hc, _⟩ := HA.out.at hlt
      obtain ⟨u, hu⟩ : ∃ u, u = l[k]?.getD 0 := ⟨_, rfl⟩
      rw [← hu] at hc
      have HU := Lib.hid hu; clear hu
      by_cases hb : inB lo hi u = true
      · obtain ⟨g1, g2⟩ := inB_iff.1 hb
        go_wp2
        go_round
        case rel =>
          refine ⟨k + 1, by omega, by go_num, fun j hj => ?_⟩
          by_cases e : j = k
          · subst e; rw [← HU.out]; exact hb
          · exact HP.out j (by omega)
        case measure => simp [intOf]; omega
      · have hbf : inB lo hi u = false := by simpa using hb
        by_cases g1 : u < lo
        · go_wp2
          go_ret
          refine ⟨ret_bool ?_, rfl⟩
          symm
          rw [← Bool.not_eq_true, allB_iff]
          intro h
          have := h k (by have := HA.out.len; omega)
          rw [← HU.out] at this
          omega
        · have g2 : hi < u := by rw [inB_false] at hbf; omega
          go_wp2
          go_ret
          refine ⟨ret_bool ?_, rfl⟩
          symm
          rw [← Bool.not_eq_true, allB_iff]
          intro h
          have := h k (by have := HA.out.len; omega)
          rw [← HU.out] at this
          omega
    · go_wp2
      go_ret
      refine ⟨ret_bool ?_, rfl⟩
      symm
      rw [allB_iff]
      intro j hj
      exact inB_iff.1 (HP.out j (by have := HA.out.len; omega))

theorem isDropCount_any (w : World) (x : Int) : Calls Try.prog 27 #[.int .i64 x] w fun e w' => e = .returned (.bool (dropB x)) ∧ w = w' := by
  by_cases h1 : 0 ≤ x
  · go_enter Try.func27, Try.ntmps27
    go_wp2
    go_ret
    exact ⟨ret_bool (by simp [dropB, inB, h1]), rfl⟩
  · have h2 : decide (0 ≤ x) = false := by simpa using h1
    go_enter Try.func27, Try.ntmps27
    go_wp2
    go_ret
    exact ⟨ret_bool (by unfold dropB inB; rw [h2]; rfl), rfl⟩

theorem iAreCaps_any (w : World) (aa : Option Addr) (n ca : Nat) (c : List Int) (ha : Ints w aa n ca c) :
    Calls Try.prog 15 #[.slice aa n ca] w fun e w' => e = .returned (.bool (capsB c)) ∧ New w w' := by
  have hm := ha.2.2.1
  have HA := Lib.hid ha; clear ha
  by_cases h1 : 1 ≤ n
  · by_cases h2 : n ≤ 6
    · go_enter Try.func15, Try.ntmps15
      go_wp2_with fail
      refine (areWithin_any _ _ _ _ c _ _ HA.out).mono ?_
      rintro e w9 ⟨rfl, rfl⟩
      go_wp2
      go_ret
      exact ⟨ret_bool (by unfold capsB; rw [← HA.out.len, inB_iff.2 (show 1 ≤ (n : Int) ∧ (n : Int) ≤ 6 by omega)]; rfl), New.refl _⟩
    · have h2f : decide ((n : Int) ≤ 6) = false := decide_eq_false (by omega)
      go_enter Try.func15, Try.ntmps15
      go_wp2
      go_ret
      exact ⟨ret_bool (by unfold capsB; rw [← HA.out.len, inB_false.2 (show ¬ (1 ≤ (n : Int) ∧ (n : Int) ≤ 6) by omega)]; rfl), New.refl _⟩
  · have h1f : decide (1 ≤ (n : Int)) = false := decide_eq_false (by omega)
    go_enter Try.func15, Try.ntmps15
    go_wp2
    go_ret
    exact ⟨ret_bool (by unfold capsB; rw [← HA.out.len, inB_false.2 (show ¬ (1 ≤ (n : Int) ∧ (n : Int) ≤ 6) by omega)]; rfl), New.refl _⟩

theorem areHeldBy_any (w : World) (aa ab : Option Addr) (n m ca cb : Nat) (c h : List Int) (ha : Ints w aa n ca c) (hb : Ints w ab m cb h) :
    Calls Try.prog 38 #[.slice aa n ca, .slice ab m cb] w fun e w' => e = .returned (.bool (heldB c h)) ∧ New w w' := by
  have hm1 := ha.2.2.1
  have hm2 := hb.2.2.1
  have HA := Lib.hid ha; clear ha
  have HB := Lib.hid hb; clear hb
  by_cases h1 : capsB c = true
  · by_cases hmn : m = n
    · subst hmn
      have HC := Lib.hid (capsB_iff.1 h1)
      have L1 := Lib.hid HA.out.1
      have L2 := Lib.hid HB.out.1
      go_enter Try.func38, Try.ntmps38
      go_wp2_with fail
      refine (iAreCaps_any _ _ _ _ c HA.out).mono ?_
      rintro e w9 ⟨rfl, n9⟩
      have N9 := Lib.hid n9; clear n9
      go_wp2
      go_loopw [19] (fun i wr => ∃ k : Nat, k ≤ m ∧ i = .int .i64 k ∧ New w wr ∧ ∀ j, j < k → 0 ≤ h[j]?.getD 0 ∧ h[j]?.getD 0 < c[j]?.getD 0) (fun i _ => m - (intOf i).toNat)
      case atStart => exact ⟨0, Nat.zero_le _, rfl, N9.out, fun j hj => absurd hj (by omega)⟩
      case round =>
        obtain ⟨k, hk, rfl, hnw, hpre⟩ := hrel
        have HP := Lib.hid hpre; clear hpre
        have NW := Lib.hid hnw; clear hnw
        by_cases hlt : k < m
        · obtain ⟨b1, o1, rfl, hc1, _⟩ := (HA.out.new NW.out).at hlt
          obtain ⟨b2, o2, rfl, hc2, _⟩ := (HB.out.new NW.out).at hlt
          have q1 := HC.out.2 k (by have := L1.out; omega)
          obtain ⟨d, hd⟩ : ∃ d, d = c[k]?.getD 0 := ⟨_, rfl⟩
          obtain ⟨u, hu⟩ : ∃ u, u = h[k]?.getD 0 := ⟨_, rfl⟩
          rw [← hd] at hc1 q1
          rw [← hu] at hc2
          have HD := Lib.hid (And.intro hd hu); clear hd hu
          by_cases g1 : u < 0
          · go_wp2
            go_ret
            refine ⟨ret_bool ?_, (by repeat (first | with_reducible exact New.refl _ | with_reducible assumption | refine New.drewN ?_ _ | refine New.drew ?_ | refine New.alloc ?_ _ | refine New.setCell ?_ (by first | omega | (simp; omega) | (simp; done)) _ | (refine New.trans ?_ (by assumption))))⟩
            symm
            rw [heldB_false]
            intro hh
            have := hh.2.2 k (by have := L1.out; omega)
            rw [← HD.out.1, ← HD.out.2] at this
            omega
          · have g1f : decide (u < 0) = false := decide_eq_false g1
            by_cases g2 : d ≤ u
            · go_wp2
              go_ret
              refine ⟨ret_bool ?_, (by repeat (first | with_reducible exact New.refl _ | with_reducible assumption | refine New.drewN ?_ _ | refine New.drew ?_ | refine New.alloc ?_ _ | refine New.setCell ?_ (by first | omega | (simp; omega) | (simp; done)) _ | (refine New.trans ?_ (by assumption))))⟩
              symm
              rw [heldB_false]
              intro hh
              have := hh.2.2 k (by have := L1.out; omega)
              rw [← HD.out.1, ← HD.out.2] at this
              omega
            · go_wp2
              go_roundw
              case rel =>
                refine ⟨k + 1, by omega, by go_num, (by repeat (first | with_reducible exact New.refl _ | with_reducible assumption | refine New.drewN ?_ _ | refine New.drew ?_ | refine New.alloc ?_ _ | refine New.setCell ?_ (by first | omega | (simp; omega) | (simp; done)) _ | (refine New.trans ?_ (by assumption)))), fun j hj => ?_⟩
                by_cases e : j = k
                · subst e
                  rw [← HD.out.1, ← HD.out.2]
                  omega
                · exact HP.out j (by omega)
              case measure => simp [intOf]; omega
        · go_wp2
          go_ret
          refine ⟨ret_bool ?_, NW.out⟩
          symm
          rw [heldB_iff]
          exact ⟨HC.out, by rw [← L1.out, ← L2.out], fun j hj => HP.out j (by have := L1.out; omega)⟩
    · have hf : heldB c h = false := heldB_false.2 fun hh => hmn (by have := hh.2.1; have := HA.out.1; have := HB.out.1; omega)
      have HF := Lib.hid hf; clear hf
      have hmn' : ((m : Int) == (n : Int)) = false := by simpa using (fun h : (m : Int) = n => hmn (by omega))
      go_enter Try.func38, Try.ntmps38
      go_wp2_with fail
      refine (iAreCaps_any _ _ _ _ c HA.out).mono ?_
      rintro e w9 ⟨rfl, n9⟩
      go_wp2
      go_ret
      exact ⟨ret_bool HF.out.symm, n9⟩
  · have h1f : capsB c = false := by simpa using h1
    have hf : heldB c h = false := by unfold heldB; rw [h1f]; rfl
    have HF := Lib.hid hf; clear hf
    go_enter Try.func38, Try.ntmps38
    go_wp2_with fail
    refine (iAreCaps_any _ _ _ _ c HA.out).mono ?_
    rintro e w9 ⟨rfl, n9⟩
    go_wp2
    go_ret
    exact ⟨ret_bool HF.out.symm, n9⟩

theorem iRoundOf_any (w : World) (aa : Option Addr) (n ca : Nat) (c : List Int) (ha : Ints w aa n ca c) :
    Calls Try.prog 12 #[.slice aa n ca] w fun e w' => e = .returned (.tuple #[.int .i64 (roundM c), .bool (capsB c)]) ∧ New w w' := by
  have HA := Lib.hid ha; clear ha
  by_cases hh : capsB c = true
  · have HC := Lib.hid (capsB_iff.1 hh)
    have L1 := Lib.hid HA.out.1
    have hn : n ≤ 6 := by have := L1.out; have := HC.out.1.2; omega
    have HM := Lib.hid (show roundM c = wholeM c by unfold roundM; rw [if_pos hh])
    have HH := Lib.hid hh
    go_enter Try.func12, Try.ntmps12
    go_wp2_with fail
    refine (iAreCaps_any _ _ _ _ c HA.out).mono ?_
    rintro e w1 ⟨rfl, n1⟩
    have N1 := Lib.hid n1; clear n1
    go_wp2
    go_loop [4, 12] (fun y i => ∃ k : Nat, k ≤ n ∧ i = .int .i64 k ∧ y = .int .i64 (prodK c k)) (fun _ i => n - (intOf i).toNat)
    case atStart => exact ⟨0, Nat.zero_le _, rfl, rfl⟩
    case round =>
      obtain ⟨k, hk, rfl, rfl⟩ := hrel
      by_cases hlt : k < n
      · obtain ⟨b1, o1, rfl, hc1, _⟩ := (HA.out.new N1.out).at hlt
        have q1 := HC.out.2 k (by have := L1.out; omega)
        have q2 := prodK_bd HC.out (k + 1) (by have := L1.out; omega)
        have q4 := pow60_le (show k + 1 ≤ 6 by omega)
        have ee : prodK c (k + 1) = prodK c k * c[k]?.getD 0 := rfl
        rw [ee] at q2
        obtain ⟨d, hd⟩ : ∃ d, d = c[k]?.getD 0 := ⟨_, rfl⟩
        obtain ⟨y, hy⟩ : ∃ y, y = prodK c k := ⟨_, rfl⟩
        rw [← hd] at hc1 q1 q2 ee
        rw [← hy] at q2 ee ⊢
        have E := Lib.hid ee; clear ee hd hy
        have w1 : IntKind.i64.wrap (y * d) = y * d := IntWalk.i64_in _ (by omega)
        go_wp2
        go_round
        case rel => exact ⟨k + 1, by omega, by go_num, by rw [E.out]⟩
        case measure => simp [intOf]; omega
      · obtain rfl : k = n := by omega
        go_wp2
        go_ret2
        exact ⟨by rw [HM.out]; unfold wholeM; rw [← L1.out]; rfl, N1.out⟩
  · have hf : capsB c = false := by simpa using hh
    go_enter Try.func12, Try.ntmps12
    go_wp2_with fail
    refine (iAreCaps_any _ _ _ _ c HA.out).mono ?_
    rintro e w1 ⟨rfl, n1⟩
    go_wp2
    go_ret2
    exact ⟨by unfold roundM; rw [if_neg hh, hf]; rfl, n1⟩

set_option maxRecDepth 100000 in
theorem iDropsFor_any (w : World) (aa ab : Option Addr) (n m ca cb : Nat) (c h : List Int) (ha : Ints w aa n ca c) (hb : Ints w ab m cb h) :
    Calls Try.prog 17 #[.slice aa n ca, .slice ab m cb] w fun e w' => e = .returned (.tuple #[.int .i64 (dropsM c h), .bool (heldB c h)]) ∧ New w w' := by
  have HA := Lib.hid ha; clear ha
  have HB := Lib.hid hb; clear hb
  by_cases hh : heldB c h = true
  · obtain ⟨hc, hd⟩ := heldB_iff.1 hh
    have L1 := Lib.hid HA.out.1
    have hn : n ≤ 6 := by have := L1.out; have := hc.1.2; omega
    have hmn : m = n := by have := L1.out; have := HB.out.1; have := hd.1; omega
    subst hmn
    have HC := Lib.hid hc; clear hc
    have HH := Lib.hid hd; clear hd
    have HM := Lib.hid (show dropsM c h = numM c h by unfold dropsM; rw [if_pos hh])
    have HE := Lib.hid hh
    go_enter Try.func17, Try.ntmps17
    go_wp2_with fail
    refine (areHeldBy_any _ _ _ _ _ _ _ c h HA.out HB.out).mono ?_
    rintro e w1 ⟨rfl, n1⟩
    have N1 := Lib.hid n1; clear n1
    go_wp2
    go_loopw [6, 7] (fun y i wr => ∃ k : Nat, k ≤ m ∧ i = .int .i64 ((m : Int) - 1 - k) ∧ y = .int .i64 (numD c h c.length k) ∧ New w wr) (fun _ i _ => (intOf i + 1).toNat)
    case atStart => exact ⟨0, Nat.zero_le _, by simp, rfl, N1.out⟩
    case round =>
      obtain ⟨k, hk, rfl, rfl, hnw⟩ := hrel
      have NW := Lib.hid hnw; clear hnw
      by_cases hlt : k < m
      · obtain ⟨j, hj⟩ : ∃ j, j = m - 1 - k := ⟨_, rfl⟩
        have ej : (m : Int) - 1 - k = (j : Int) := by omega
        have jlt : j < m := by omega
        rw [ej]
        obtain ⟨b1, o1, rfl, hc1, _⟩ := (HA.out.new NW.out).at jlt
        obtain ⟨b2, o2, rfl, hc2, _⟩ := (HB.out.new NW.out).at jlt
        have q1 := HC.out.2 j (by have := L1.out; omega)
        have q2 := HH.out.2 j (by have := L1.out; omega)
        have q3 := numD_bd HC.out HH.out (k + 1) (by have := L1.out; omega)
        have q4 := pow60_le (show k + 1 ≤ 6 by omega)
        have q5 := numD_bd HC.out HH.out k (by have := L1.out; omega)
        have ee : numD c h c.length (k + 1) = numD c h c.length k * c[j]?.getD 0 + h[j]?.getD 0 := by
          show numD c h c.length k * c[c.length - 1 - k]?.getD 0 + h[c.length - 1 - k]?.getD 0 = _
          rw [hj, ← L1.out]
        rw [ee] at q3
        have q6 : 0 ≤ numD c h c.length k * c[j]?.getD 0 := Int.mul_nonneg q5.1 (by omega)
        obtain ⟨d, hd⟩ : ∃ d, d = c[j]?.getD 0 := ⟨_, rfl⟩
        obtain ⟨u, hu⟩ : ∃ u, u = h[j]?.getD 0 := ⟨_, rfl⟩
        obtain ⟨y, hy⟩ : ∃ y, y = numD c h c.length k := ⟨_, rfl⟩
        rw [← hd] at hc1 q1 q2 q3 ee q6
        rw [← hu] at hc2 q2 q3 ee
        rw [← hy] at q3 ee q6 q5 ⊢
        have E := Lib.hid ee; clear ee hd hu hy
        have w1 : IntKind.i64.wrap (y * d) = y * d := IntWalk.i64_in _ (by omega)
        have w2 : IntKind.i64.wrap (y * d + u) = y * d + u := IntWalk.i64_in _ (by omega)
        have EJ := Lib.hid (And.intro hj ej); clear hj ej
        go_wp2
        go_quiet (fail)
        go_wp2
        go_roundw
        case rel => exact ⟨k + 1, by omega, by have := EJ.out; go_num, by rw [E.out], NW.out.drewN _⟩
        case measure => simp [intOf] <;> omega
      · obtain rfl : k = m := by omega
        go_wp2
        go_ret2
        exact ⟨by rw [HM.out, HE.out]; unfold numM; rw [← L1.out]; rfl, NW.out⟩
  · have hf : heldB c h = false := by simpa using hh
    go_enter Try.func17, Try.ntmps17
    go_wp2_with fail
    refine (areHeldBy_any _ _ _ _ _ _ _ c h HA.out HB.out).mono ?_
    rintro e w9 ⟨rfl, n1⟩
    go_wp2
    go_ret2
    exact ⟨by unfold dropsM; rw [if_neg hh, hf]; rfl, n1⟩
end Go.Proofs.Ytbgbglalibjncaa
