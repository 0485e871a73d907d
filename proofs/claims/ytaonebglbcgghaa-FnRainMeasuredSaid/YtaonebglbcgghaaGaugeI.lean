/- The program's functions on gauges. -/
import Derived.Test.YtaonebglbcgghaaGauge
import Derived.Test.YtaonebglbcgghaaBuckJ
namespace Go.Proofs.Ytaonebglbcgghaa
open Go.RowKit

theorem isRoom_any (w : World) (x : Int) : Calls Try.prog 26 #[.int .i64 x] w fun e w' => e = .returned (.bool (inB 1 60 x)) ∧ w = w' := by
  by_cases h1 : 1 ≤ x
  · go_enter Try.func26, Try.ntmps26
    go_wp2
    go_ret
    exact ⟨ret_bool (by simp [inB, h1]), rfl⟩
  · have h2 : decide (1 ≤ x) = false := by simpa using h1
    go_enter Try.func26, Try.ntmps26
    go_wp2
    go_ret
    exact ⟨ret_bool (by unfold inB; rw [h2]; rfl), rfl⟩

theorem areOfDays_any (w : World) (aa : Option Addr) (n ca : Nat) (xs : List Int) (ha : Ints w aa n ca xs) :
    Calls Try.prog 27 #[.slice aa n ca] w fun e w' => e = .returned (.bool (dayB xs)) ∧ w = w' := by
  have hm := ha.2.2.1
  have HA := Lib.hid ha; clear ha
  by_cases hn : n ≤ 100
  · go_enter Try.func27, Try.ntmps27
    go_wp2_with fail
    refine (areWithin_any _ _ _ _ xs _ _ HA.out).mono ?_
    rintro e w9 ⟨rfl, rfl⟩
    go_wp2
    go_ret
    exact ⟨ret_bool (by unfold dayB; rw [decide_eq_true (show xs.length ≤ 100 by have := HA.out.len; omega)]; rfl), rfl⟩
  · have hf : decide ((n : Int) ≤ 100) = false := decide_eq_false (by omega)
    go_enter Try.func27, Try.ntmps27
    go_wp2
    go_ret
    exact ⟨ret_bool (by unfold dayB; rw [decide_eq_false (show ¬ xs.length ≤ 100 by have := HA.out.len; omega)]; rfl), rfl⟩

set_option maxRecDepth 100000 in
theorem gaugeRain_any (w : World) (r : Int) (aa : Option Addr) (n ca : Nat) (xs : List Int) (ha : Ints w aa n ca xs) :
    Calls Try.prog 23 #[.int .i64 r, .slice aa n ca] w fun e w' => ∃ oa on oc, e = .returned (.tuple #[.slice oa on oc, .int .i64 (restM r xs), .bool (rainB r xs)]) ∧ Own w' w.heap.size w'.heap.size oa on oc (tipsM r xs) ∧ New w w' := by
  have HN := Lib.hid ha.1
  have HA := Lib.hid ha; clear ha
  by_cases h1 : inB 1 60 r = true
  · by_cases h2 : dayB xs = true
    · have hh : rainB r xs = true := by unfold rainB; rw [h1, h2]; rfl
      have hr := rainB_iff.1 hh
      have hn : n ≤ 100 := by have := HN.out; have := hr.2.1; omega
      have r0 := hr.1
      have HM := Lib.hid (show tipsM r xs = tgTo r xs xs.length ∧ restM r xs = gaK r xs xs.length by unfold tipsM restM; rw [if_pos hh, if_pos hh]; exact ⟨rfl, rfl⟩)
      have HH := Lib.hid hh; clear hh
      have HC := Lib.hid hr; clear hr
      have d0 : ¬ r = 0 := by omega
      have hmk := run_make_row' (P := Try.prog) 24 3 (.int .i64 0) 8 Try.underlying24 Try.infoInt rfl .i64 .i64 n (by omega) (by omega)
      go_enter Try.func23, Try.ntmps23
      go_wp2_with fail
      refine (isRoom_any _ _).mono ?_
      rintro e w9 ⟨rfl, rfl⟩
      go_wp2_with fail
      refine (areOfDays_any _ _ _ _ xs HA.out).mono ?_
      rintro e w9 ⟨rfl, rfl⟩
      go_wp2
      go_loopw [8, 24] (fun y i wr => ∃ (k : Nat) (f : Nat → Value), k ≤ n ∧ i = .int .i64 k ∧ y = .int .i64 (gaK r xs k) ∧ wr.rowIs w.heap.size 3 n f ∧ (∀ j, j < k → f j = .int .i64 (tgK r xs j)) ∧ (∀ j, ∃ z, f j = .int .i64 z) ∧ New w wr) (fun _ i _ => n - (intOf i).toNat)
      case atStart => exact ⟨0, _, Nat.zero_le _, rfl, rfl, World.rowIs_made _ _ _ _, fun j hj => absurd hj (by omega), fun _ => ⟨0, rfl⟩, (New.refl w).alloc _⟩
      case round =>
        obtain ⟨k, f, hk, rfl, rfl, hrow, hf, hz, hnew⟩ := hrel
        have HR := Lib.hid hrow; clear hrow
        have HF := Lib.hid hf; clear hf
        have HZ := Lib.hid hz; clear hz
        have NW := Lib.hid hnew; clear hnew
        by_cases hlt : k < n
        · obtain ⟨b, o, rfl, hcl, _⟩ := (HA.out.new NW.out).at hlt
          have KC := Lib.hid (show k < xs.length by have := HN.out; omega)
          have q0 := gaK_bd HC.out k (by have := KC.out; omega)
          have q1 := HC.out.2.2 k KC.out
          have q3 := tgK_bd HC.out KC.out
          have q4 := gaK_bd HC.out (k + 1) (by have := KC.out; omega)
          have e2 : (gaK r xs k + xs[k]?.getD 0) / r = tgK r xs k := rfl
          have e3 : (gaK r xs k + xs[k]?.getD 0) % r = gaK r xs (k + 1) := rfl
          rw [← e2] at q3
          rw [← e3] at q4
          obtain ⟨d, hd⟩ : ∃ d, d = xs[k]?.getD 0 := ⟨_, rfl⟩
          obtain ⟨y, hy⟩ : ∃ y, y = gaK r xs k := ⟨_, rfl⟩
          rw [← hd] at hcl q1 e2 e3 q3 q4
          rw [← hy] at q0 e2 e3 q3 q4 ⊢
          have E := Lib.hid (And.intro e2 e3); clear e2 e3 hd hy
          have w0 : IntKind.i64.wrap (y + d) = y + d := IntWalk.i64_in _ (by omega)
          have w1 : IntKind.i64.wrap ((y + d) / r) = (y + d) / r := IntWalk.i64_in _ (by omega)
          obtain ⟨z, ez⟩ := HZ.out k
          have hd2 : wr.cell? ⟨w.heap.size, k, none⟩ = some (.int .i64 z) := by rw [HR.out.cell hlt, ez]
          have hfz := HR.out.frozen k
          clear ez
          go_wp2
          go_roundw
          case rel =>
            refine ⟨k + 1, _, by omega, by go_num, by rw [E.out.2], HR.out.set k _, fun j hj => ?_, fun j => ?_, NW.out.setCell (Nat.le_refl _) _⟩
            · by_cases e : j = k
              · subst e; simp [E.out.1]
              · simp only [e, if_false]; exact HF.out j (by omega)
            · by_cases e : j = k
              · simp [e]
              · simp only [e, if_false]; exact HZ.out j
          case measure => simp [intOf]; omega
        · go_wp2
          go_ret3
          obtain rfl : k = n := by omega
          have hl : k = (tgTo r xs xs.length).length := by rw [tgTo_length]; exact HN.out
          rw [HM.out.1, HM.out.2, HH.out]
          refine ⟨_, _, _, by rw [← HN.out]; rfl, ⟨hl, Nat.le_refl _, by omega, .inr ⟨w.heap.size, f, rfl, Nat.le_refl _, HR.out.lt, HR.out, fun j hj => ?_⟩⟩, NW.out⟩
          rw [HF.out j hj, tgTo_get _ _ (by have := HN.out; omega)]
    · have h2f : dayB xs = false := by simpa using h2
      have hf : rainB r xs = false := by unfold rainB; rw [h2f]; simp
      have HM := Lib.hid (show tipsM r xs = [] ∧ restM r xs = 0 by unfold tipsM restM; rw [if_neg (by rw [hf]; decide), if_neg (by rw [hf]; decide)]; exact ⟨rfl, rfl⟩)
      have HH := Lib.hid hf; clear hf
      go_enter Try.func23, Try.ntmps23
      go_wp2_with fail
      refine (isRoom_any _ _).mono ?_
      rintro e w9 ⟨rfl, rfl⟩
      go_wp2_with fail
      refine (areOfDays_any _ _ _ _ xs HA.out).mono ?_
      rintro e w9 ⟨rfl, rfl⟩
      go_wp2
      go_ret3
      rw [HM.out.1, HM.out.2, HH.out]
      exact ⟨_, _, _, rfl, Own.nil _ _ _, New.refl _⟩
  · have h1f : inB 1 60 r = false := by simpa using h1
    have hf : rainB r xs = false := by unfold rainB; rw [h1f]; rfl
    have HM := Lib.hid (show tipsM r xs = [] ∧ restM r xs = 0 by unfold tipsM restM; rw [if_neg (by rw [hf]; decide), if_neg (by rw [hf]; decide)]; exact ⟨rfl, rfl⟩)
    have HH := Lib.hid hf; clear hf
    go_enter Try.func23, Try.ntmps23
    go_wp2_with fail
    refine (isRoom_any _ _).mono ?_
    rintro e w9 ⟨rfl, rfl⟩
    go_wp2
    go_ret3
    rw [HM.out.1, HM.out.2, HH.out]
    exact ⟨_, _, _, rfl, Own.nil _ _ _, New.refl _⟩

theorem iTipsOfRain_any (w : World) (r : Int) (aa : Option Addr) (n ca : Nat) (xs : List Int) (ha : Ints w aa n ca xs) :
    Calls Try.prog 6 #[.int .i64 r, .slice aa n ca] w fun e w' => ∃ oa on oc, e = .returned (.tuple #[.slice oa on oc, .bool (rainB r xs)]) ∧ Own w' w.heap.size w'.heap.size oa on oc (tipsM r xs) ∧ New w w' := by
  have HA := Lib.hid ha; clear ha
  go_enter Try.func6, Try.ntmps6
  go_wp2_with fail
  refine (gaugeRain_any _ _ _ _ _ xs HA.out).mono ?_
  rintro e w9 ⟨oa, on, oc, rfl, o1, n1⟩
  go_wp2
  go_ret2
  exact ⟨_, _, _, rfl, o1, n1⟩

theorem iRestOfRain_any (w : World) (r : Int) (aa : Option Addr) (n ca : Nat) (xs : List Int) (ha : Ints w aa n ca xs) :
    Calls Try.prog 8 #[.int .i64 r, .slice aa n ca] w fun e w' => e = .returned (.tuple #[.int .i64 (restM r xs), .bool (rainB r xs)]) ∧ New w w' := by
  have HA := Lib.hid ha; clear ha
  go_enter Try.func8, Try.ntmps8
  go_wp2_with fail
  refine (gaugeRain_any _ _ _ _ _ xs HA.out).mono ?_
  rintro e w9 ⟨oa, on, oc, rfl, o1, n1⟩
  go_wp2
  go_ret2
  exact ⟨rfl, n1⟩

theorem mulSum (r : Int) (xs : List Int) (k : Nat) : sumK xs k * r + xs[k]?.getD 0 * r = sumK xs (k + 1) * r := by
  show _ = (sumK xs k + xs[k]?.getD 0) * r
  rw [Int.add_mul]

theorem iRangeOfTips_any (w : World) (r : Int) (aa : Option Addr) (n ca : Nat) (xs : List Int) (ha : Ints w aa n ca xs) :
    Calls Try.prog 14 #[.int .i64 r, .slice aa n ca] w fun e w' => e = .returned (.tuple #[.int .i64 (lowM r xs), .int .i64 (highM r xs), .bool (rainB r xs)]) ∧ New w w' := by
  have HN := Lib.hid ha.1
  have HA := Lib.hid ha; clear ha
  by_cases h1 : inB 1 60 r = true
  · by_cases h2 : dayB xs = true
    · have hh : rainB r xs = true := by unfold rainB; rw [h1, h2]; rfl
      have hr := rainB_iff.1 hh
      have hn : n ≤ 100 := by have := HN.out; have := hr.2.1; omega
      obtain ⟨r0, r1⟩ := hr.1
      obtain ⟨s0, s1⟩ := sumM_bd hr
      obtain ⟨l0, l1⟩ := low_bd r0 r1 s0 s1
      have HM := Lib.hid (show lowM r xs = r * sumM xs ∧ highM r xs = r * sumM xs + r - 1 by unfold lowM highM; rw [if_pos hh, if_pos hh]; exact ⟨rfl, rfl⟩)
      have HH := Lib.hid hh; clear hh
      have HC := Lib.hid hr; clear hr
      go_enter Try.func14, Try.ntmps14
      go_wp2_with fail
      refine (isRoom_any _ _).mono ?_
      rintro e w9 ⟨rfl, rfl⟩
      go_wp2_with fail
      refine (areOfDays_any _ _ _ _ xs HA.out).mono ?_
      rintro e w9 ⟨rfl, rfl⟩
      go_wp2
      go_loop [7, 20] (fun y i => ∃ k : Nat, k ≤ n ∧ i = .int .i64 k ∧ y = .int .i64 (sumK xs k * r)) (fun _ i => n - (intOf i).toNat)
      case atStart => exact ⟨0, Nat.zero_le _, rfl, by simp [sumK]⟩
      case round =>
        obtain ⟨k, hk, rfl, rfl⟩ := hrel
        by_cases hlt : k < n
        · obtain ⟨b, o, rfl, hcl, _⟩ := HA.out.at hlt
          have KC := Lib.hid (show k < xs.length by have := HN.out; omega)
          have q0 := sumK_bd HC.out k (by have := KC.out; omega)
          have q1 := HC.out.2.2 k KC.out
          have ee := mulSum r xs k
          have y0 : 0 ≤ sumK xs k * r := Int.mul_nonneg q0.1 (by omega)
          have y1 : sumK xs k * r ≤ 1000000 * 60 := Int.mul_le_mul (by omega) r1 (by omega) (by omega)
          obtain ⟨d, hd⟩ : ∃ d, d = xs[k]?.getD 0 := ⟨_, rfl⟩
          obtain ⟨y, hy⟩ : ∃ y, y = sumK xs k * r := ⟨_, rfl⟩
          rw [← hd] at hcl q1 ee
          rw [← hy] at y0 y1 ee ⊢
          have E := Lib.hid ee; clear ee hd hy
          have m0 : 0 ≤ d * r := Int.mul_nonneg q1.1 (by omega)
          have m1 : d * r ≤ 10000 * 60 := Int.mul_le_mul q1.2 r1 (by omega) (by omega)
          have w1 : IntKind.i64.wrap (d * r) = d * r := IntWalk.i64_in _ (by omega)
          have w2 : IntKind.i64.wrap (y + d * r) = y + d * r := IntWalk.i64_in _ (by omega)
          go_wp2
          go_round
          case rel => exact ⟨k + 1, by omega, by go_num, by rw [E.out]⟩
          case measure => simp [intOf]; omega
        · obtain rfl : k = n := by omega
          have ee : sumK xs k * r = r * sumM xs := by unfold sumM; rw [← HN.out, Int.mul_comm]
          rw [ee]
          clear ee
          have w2 : IntKind.i64.wrap (r * sumM xs + r) = r * sumM xs + r := IntWalk.i64_in _ (by omega)
          have w3 : IntKind.i64.wrap (r * sumM xs + r - 1) = r * sumM xs + r - 1 := IntWalk.i64_in _ (by omega)
          go_wp2
          go_ret3
          exact ⟨by rw [HM.out.1, HM.out.2, HH.out]; rfl, New.refl _⟩
    · have h2f : dayB xs = false := by simpa using h2
      have hf : rainB r xs = false := by unfold rainB; rw [h2f]; simp
      have HM := Lib.hid (show lowM r xs = 0 ∧ highM r xs = 0 by unfold lowM highM; rw [if_neg (by rw [hf]; decide), if_neg (by rw [hf]; decide)]; exact ⟨rfl, rfl⟩)
      have HH := Lib.hid hf; clear hf
      go_enter Try.func14, Try.ntmps14
      go_wp2_with fail
      refine (isRoom_any _ _).mono ?_
      rintro e w9 ⟨rfl, rfl⟩
      go_wp2_with fail
      refine (areOfDays_any _ _ _ _ xs HA.out).mono ?_
      rintro e w9 ⟨rfl, rfl⟩
      go_wp2
      go_ret3
      exact ⟨by rw [HM.out.1, HM.out.2, HH.out]; rfl, New.refl _⟩
  · have h1f : inB 1 60 r = false := by simpa using h1
    have hf : rainB r xs = false := by unfold rainB; rw [h1f]; rfl
    have HM := Lib.hid (show lowM r xs = 0 ∧ highM r xs = 0 by unfold lowM highM; rw [if_neg (by rw [hf]; decide), if_neg (by rw [hf]; decide)]; exact ⟨rfl, rfl⟩)
    have HH := Lib.hid hf; clear hf
    go_enter Try.func14, Try.ntmps14
    go_wp2_with fail
    refine (isRoom_any _ _).mono ?_
    rintro e w9 ⟨rfl, rfl⟩
    go_wp2
    go_ret3
    exact ⟨by rw [HM.out.1, HM.out.2, HH.out]; rfl, New.refl _⟩

theorem ret_two {a a' b b' : Int} {c : Bool} (h1 : a = a') (h2 : b = b') : Ending.returned (.tuple #[.int .i64 a, .int .i64 b, .bool c]) = .returned (.tuple #[.int .i64 a', .int .i64 b', .bool c]) := by rw [h1, h2]
theorem low_of {r : Int} {xs : List Int} (h : rainB r xs = true) : (0 ≤ lowM r xs ∧ lowM r xs ≤ 60000000) ∧ highM r xs = lowM r xs + r - 1 ∧ lowM r xs = r * sumM xs := by
  have hc := rainB_iff.1 h
  obtain ⟨s0, s1⟩ := sumM_bd hc
  have q := low_bd hc.1.1 hc.1.2 s0 s1
  unfold lowM highM
  rw [if_pos h, if_pos h]
  exact ⟨q, rfl, rfl⟩

theorem two_no' {a b : Int} {xs ys : List Int} (h : twoB a b xs ys = false) : twoLowM a b xs ys = 0 ∧ twoHighM a b xs ys = 0 := by
  unfold twoLowM twoHighM
  rw [if_neg (by rw [h]; decide), if_neg (by rw [h]; decide)]
  exact ⟨rfl, rfl⟩
theorem two_yes' {a b : Int} {xs ys : List Int} (h : twoB a b xs ys = true) : twoLowM a b xs ys = twoLow a b xs ys ∧ twoHighM a b xs ys = twoHigh a b xs ys := by
  unfold twoLowM twoHighM
  rw [if_pos h, if_pos h]
  exact ⟨rfl, rfl⟩

set_option maxRecDepth 100000 in
theorem iRangeOfTwo_any (w : World) (a b : Int) (aa ab : Option Addr) (n m ca cb : Nat) (xs ys : List Int) (ha : Ints w aa n ca xs) (hb : Ints w ab m cb ys) :
    Calls Try.prog 15 #[.int .i64 a, .int .i64 b, .slice aa n ca, .slice ab m cb] w fun e w' => e = .returned (.tuple #[.int .i64 (twoLowM a b xs ys), .int .i64 (twoHighM a b xs ys), .bool (twoB a b xs ys)]) ∧ New w w' := by
  have HA := Lib.hid ha; clear ha
  have HB := Lib.hid hb; clear hb
  by_cases h1 : rainB a xs = true
  · by_cases h2 : rainB b ys = true
    · obtain ⟨⟨l0, l1⟩, eh, el⟩ := low_of h1
      obtain ⟨⟨m0, m1⟩, fh, fl⟩ := low_of h2
      have HE := Lib.hid (show twoB a b xs ys = decide (twoLow a b xs ys ≤ twoHigh a b xs ys) by unfold twoB; rw [h1, h2]; rfl)
      have rb := (rainB_iff.1 h1).1
      have rc := (rainB_iff.1 h2).1
      obtain ⟨L, hL⟩ : ∃ L, L = lowM a xs := ⟨_, rfl⟩
      obtain ⟨M, hM⟩ : ∃ M, M = lowM b ys := ⟨_, rfl⟩
      have HX := Lib.hid (show (L = lowM a xs ∧ M = lowM b ys) ∧ (highM a xs = L + a - 1 ∧ highM b ys = M + b - 1) ∧ twoLow a b xs ys = max L M ∧ twoHigh a b xs ys = min (L + a) (M + b) - 1 from
        ⟨⟨hL, hM⟩, ⟨by rw [eh, hL], by rw [fh, hM]⟩, by unfold twoLow; rw [← el, ← fl, hL, hM], by unfold twoHigh; rw [← el, ← fl, hL, hM]⟩)
      rw [← hL] at l0 l1
      rw [← hM] at m0 m1
      clear eh el fh fl hL hM
      go_enter Try.func15, Try.ntmps15
      go_wp2_with fail
      refine (iRangeOfTips_any _ _ _ _ _ xs HA.out).mono ?_
      rintro e w1 ⟨rfl, n1⟩
      have N1 := Lib.hid n1; clear n1
      go_wp2_with fail
      refine (iRangeOfTips_any _ _ _ _ _ ys (HB.out.new N1.out)).mono ?_
      rintro e w2 ⟨rfl, n2⟩
      have N2 := Lib.hid (N1.out.trans n2); clear n2
      rw [h2, HX.out.2.1.1, HX.out.2.1.2, ← HX.out.1.1, ← HX.out.1.2]
      by_cases hgt : min (L + a - 1) (M + b - 1) < max L M
      · have hf : twoB a b xs ys = false := by
          rw [HE.out, HX.out.2.2.1, HX.out.2.2.2]
          exact decide_eq_false (by omega)
        have HZ := Lib.hid (two_no' hf)
        have HF := Lib.hid hf; clear hf
        go_wp2
        all_goals go_ret3
        all_goals exact ⟨by rw [HZ.out.1, HZ.out.2, HF.out]; rfl, N2.out⟩
      · have hf : twoB a b xs ys = true := by
          rw [HE.out, HX.out.2.2.1, HX.out.2.2.2]
          exact decide_eq_true (by omega)
        have HZ := Lib.hid (two_yes' hf)
        have HF := Lib.hid hf; clear hf
        go_wp2
        all_goals go_ret3
        all_goals
          refine ⟨?_, N2.out⟩
          rw [HZ.out.1, HZ.out.2, HF.out, HX.out.2.2.1, HX.out.2.2.2]
          exact ret_two (by omega) (by omega)
    · have h2f : rainB b ys = false := by simpa using h2
      have hf : twoB a b xs ys = false := by unfold twoB; rw [h2f]; simp
      have HZ := Lib.hid (two_no' hf)
      have HF := Lib.hid hf; clear hf
      go_enter Try.func15, Try.ntmps15
      go_wp2_with fail
      refine (iRangeOfTips_any _ _ _ _ _ xs HA.out).mono ?_
      rintro e w1 ⟨rfl, n1⟩
      have N1 := Lib.hid n1; clear n1
      go_wp2_with fail
      refine (iRangeOfTips_any _ _ _ _ _ ys (HB.out.new N1.out)).mono ?_
      rintro e w2 ⟨rfl, n2⟩
      have N2 := Lib.hid (N1.out.trans n2); clear n2
      rw [h2f]
      go_wp2
      all_goals go_ret3
      all_goals exact ⟨by rw [HZ.out.1, HZ.out.2, HF.out]; rfl, N2.out⟩
  · have h1f : rainB a xs = false := by simpa using h1
    have hf : twoB a b xs ys = false := by unfold twoB; rw [h1f]; rfl
    have HZ := Lib.hid (two_no' hf)
    have HF := Lib.hid hf; clear hf
    go_enter Try.func15, Try.ntmps15
    go_wp2_with fail
    refine (iRangeOfTips_any _ _ _ _ _ xs HA.out).mono ?_
    rintro e w1 ⟨rfl, n1⟩
    have N1 := Lib.hid n1; clear n1
    go_wp2_with fail
    refine (iRangeOfTips_any _ _ _ _ _ ys (HB.out.new N1.out)).mono ?_
    rintro e w2 ⟨rfl, n2⟩
    have N2 := Lib.hid (N1.out.trans n2); clear n2
    go_wp2
    all_goals go_ret3
    all_goals exact ⟨by rw [HZ.out.1, HZ.out.2, HF.out]; rfl, N2.out⟩

set_option maxRecDepth 100000 in
theorem iRainOfTips_any (w : World) (r : Int) (aa : Option Addr) (n ca : Nat) (xs : List Int) (ha : Ints w aa n ca xs) :
    Calls Try.prog 17 #[.int .i64 r, .slice aa n ca] w fun e w' => ∃ oa on oc, e = .returned (.tuple #[.slice oa on oc, .bool (madeB r xs)]) ∧ Own w' w.heap.size w'.heap.size oa on oc (madeM r xs) ∧ New w w' := by
  have HN := Lib.hid ha.1
  have HA := Lib.hid ha; clear ha
  by_cases h1 : inB 1 60 r = true
  · by_cases h2 : dayB xs = true
    · have hh : rainB r xs = true := by unfold rainB; rw [h1, h2]; rfl
      have hr := rainB_iff.1 hh
      have hn : n ≤ 100 := by have := HN.out; have := hr.2.1; omega
      have r0 := hr.1
      have HH := Lib.hid hh; clear hh
      have HC := Lib.hid hr; clear hr
      have hmk := run_make_row' (P := Try.prog) 24 3 (.int .i64 0) 8 Try.underlying24 Try.infoInt rfl .i64 .i64 n (by omega) (by omega)
      go_enter Try.func17, Try.ntmps17
      go_wp2_with fail
      refine (isRoom_any _ _).mono ?_
      rintro e w9 ⟨rfl, rfl⟩
      go_wp2_with fail
      refine (areOfDays_any _ _ _ _ xs HA.out).mono ?_
      rintro e w9 ⟨rfl, rfl⟩
      go_wp2
      go_loopw [22] (fun i wr => ∃ (k : Nat) (f : Nat → Value), k ≤ n ∧ i = .int .i64 k ∧ wr.rowIs w.heap.size 3 n f ∧ (∀ j, j < k → f j = .int .i64 (xs[j]?.getD 0 * r)) ∧ (∀ j, ∃ z, f j = .int .i64 z) ∧ New w wr) (fun i _ => n - (intOf i).toNat)
      case atStart => exact ⟨0, _, Nat.zero_le _, rfl, World.rowIs_made _ _ _ _, fun j hj => absurd hj (by omega), fun _ => ⟨0, rfl⟩, (New.refl w).alloc _⟩
      case round =>
        obtain ⟨k, f, hk, rfl, hrow, hf, hz, hnew⟩ := hrel
        have HR := Lib.hid hrow; clear hrow
        have HF := Lib.hid hf; clear hf
        have HZ := Lib.hid hz; clear hz
        have NW := Lib.hid hnew; clear hnew
        by_cases hlt : k < n
        · obtain ⟨b, o, rfl, hcl, _⟩ := (HA.out.new NW.out).at hlt
          have KC := Lib.hid (show k < xs.length by have := HN.out; omega)
          have q1 := HC.out.2.2 k KC.out
          obtain ⟨d, hd⟩ : ∃ d, d = xs[k]?.getD 0 := ⟨_, rfl⟩
          rw [← hd] at hcl q1
          have E := Lib.hid hd; clear hd
          have m0 : 0 ≤ d * r := Int.mul_nonneg q1.1 (by omega)
          have m1 : d * r ≤ 10000 * 60 := Int.mul_le_mul q1.2 r0.2 (by omega) (by omega)
          have w1 : IntKind.i64.wrap (d * r) = d * r := IntWalk.i64_in _ (by omega)
          obtain ⟨z, ez⟩ := HZ.out k
          have hd2 : wr.cell? ⟨w.heap.size, k, none⟩ = some (.int .i64 z) := by rw [HR.out.cell hlt, ez]
          have hfz := HR.out.frozen k
          clear ez
          go_wp2
          go_roundw
          case rel =>
            refine ⟨k + 1, _, by omega, by go_num, HR.out.set k _, fun j hj => ?_, fun j => ?_, NW.out.setCell (Nat.le_refl _) _⟩
            · by_cases e : j = k
              · subst e; simp [E.out]
              · simp only [e, if_false]; exact HF.out j (by omega)
            · by_cases e : j = k
              · simp [e]
              · simp only [e, if_false]; exact HZ.out j
          case measure => simp [intOf]; omega
        · obtain rfl : k = n := by omega
          have OW : Own wr w.heap.size wr.heap.size (some ⟨w.heap.size, 0, none⟩) k k (mulTo r xs xs.length) :=
            ⟨by rw [mulTo_length]; exact HN.out, Nat.le_refl _, by omega, .inr ⟨w.heap.size, f, rfl, Nat.le_refl _, HR.out.lt, HR.out, fun j hj => by rw [HF.out j hj, mulTo_get _ _ (by have := HN.out; omega)]⟩⟩
          have O1 := Lib.hid OW; clear OW
          go_wp2_with fail
          refine (areOfDays_any _ _ _ _ (mulTo r xs xs.length) O1.out.ints).mono ?_
          rintro e w9 ⟨rfl, rfl⟩
          have hl : decide ((mulTo r xs xs.length).length ≤ 100) = true := decide_eq_true (by rw [mulTo_length]; have := HN.out; omega)
          have ed : dayB (mulTo r xs xs.length) = madeB r xs := by unfold dayB madeB; rw [hl, HH.out]
          rw [ed]
          clear ed hl
          by_cases hb : madeB r xs = true
          · have HM := Lib.hid (show madeM r xs = mulTo r xs xs.length by unfold madeM; rw [if_pos hb])
            go_wp2
            go_ret2
            rw [HM.out]
            exact ⟨_, _, _, by rw [hb]; rfl, O1.out, NW.out⟩
          · have hbf : madeB r xs = false := by simpa using hb
            have HM := Lib.hid (show madeM r xs = [] by unfold madeM; rw [if_neg hb])
            go_wp2
            go_ret2
            rw [HM.out]
            exact ⟨_, _, _, by rw [hbf]; rfl, Own.nil _ _ _, NW.out⟩
    · have h2f : dayB xs = false := by simpa using h2
      have hb : madeB r xs = false := by unfold madeB rainB; rw [h2f]; simp
      have HM := Lib.hid (show madeM r xs = [] by unfold madeM; rw [if_neg (by rw [hb]; decide)])
      have HB := Lib.hid hb; clear hb
      go_enter Try.func17, Try.ntmps17
      go_wp2_with fail
      refine (isRoom_any _ _).mono ?_
      rintro e w9 ⟨rfl, rfl⟩
      go_wp2_with fail
      refine (areOfDays_any _ _ _ _ xs HA.out).mono ?_
      rintro e w9 ⟨rfl, rfl⟩
      go_wp2
      go_ret2
      rw [HM.out, HB.out]
      exact ⟨_, _, _, rfl, Own.nil _ _ _, New.refl _⟩
  · have h1f : inB 1 60 r = false := by simpa using h1
    have hb : madeB r xs = false := by unfold madeB rainB; rw [h1f]; rfl
    have HM := Lib.hid (show madeM r xs = [] by unfold madeM; rw [if_neg (by rw [hb]; decide)])
    have HB := Lib.hid hb; clear hb
    go_enter Try.func17, Try.ntmps17
    go_wp2_with fail
    refine (isRoom_any _ _).mono ?_
    rintro e w9 ⟨rfl, rfl⟩
    go_wp2
    go_ret2
    rw [HM.out, HB.out]
    exact ⟨_, _, _, rfl, Own.nil _ _ _, New.refl _⟩

theorem iFirstTip_any (w : World) (r : Int) (aa : Option Addr) (n ca : Nat) (xs : List Int) (ha : Ints w aa n ca xs) :
    Calls Try.prog 10 #[.int .i64 r, .slice aa n ca] w fun e w' => e = .returned (.tuple #[.int .i64 (firI r xs), .bool (firB r xs)]) ∧ New w w' := by
  have HA := Lib.hid ha; clear ha
  by_cases h1 : rainB r xs = true
  · have HC := Lib.hid (rainB_iff.1 h1)
    have HM := Lib.hid (show tipsM r xs = tgTo r xs xs.length by unfold tipsM; rw [if_pos h1])
    have H1 := Lib.hid h1
    go_enter Try.func10, Try.ntmps10
    go_wp2_with fail
    refine (gaugeRain_any _ _ _ _ _ xs HA.out).mono ?_
    rintro e w1 ⟨oa, on, oc, rfl, o1, n1⟩
    rw [HM.out] at o1
    have N1 := Lib.hid n1; clear n1
    have O1 := Lib.hid o1.ints; clear o1
    have ON := Lib.hid (show on = xs.length by have := O1.out.len; rw [tgTo_length] at this; exact this)
    have hn : on ≤ 100 := by have := ON.out; have := HC.out.2.1; omega
    go_wp2
    go_loop [20] (fun i => ∃ k : Nat, k ≤ on ∧ i = .int .i64 k ∧ ∀ j, j < k → tgK r xs j = 0) (fun i => on - (intOf i).toNat)
    case atStart => exact ⟨0, Nat.zero_le _, rfl, fun j hj => absurd hj (by omega)⟩
    case round =>
      obtain ⟨k, hk, rfl, hpre⟩ := hrel
      have HP := Lib.hid hpre; clear hpre
      by_cases hlt : k < on
      · obtain ⟨b, o, rfl, hcl, _⟩ := O1.out.at hlt
        have KC := Lib.hid (show k < xs.length by have := ON.out; omega)
        have q3 := tgK_bd HC.out KC.out
        rw [tgTo_get _ _ KC.out] at hcl
        obtain ⟨t, ht⟩ : ∃ t, t = tgK r xs k := ⟨_, rfl⟩
        rw [← ht] at hcl q3
        have T := Lib.hid ht; clear ht
        by_cases hge : 0 < t
        · have fa := fir_at H1.out KC.out ((dry_tips HC.out).symm.trans (lead_eq (p := fun j => tgK r xs j == 0) (by have := KC.out; omega) (fun j hj => by rw [HP.out j hj]; rfl) (fun _ => by rw [← T.out]; simp; omega)))
          have FA := Lib.hid fa; clear fa
          go_wp2
          go_ret2
          exact ⟨by rw [FA.out.1, FA.out.2]; rfl, N1.out⟩
        · go_wp2
          go_round
          case rel =>
            refine ⟨k + 1, by omega, by go_num, fun j hj => ?_⟩
            by_cases e : j = k
            · subst e; rw [← T.out]; omega
            · exact HP.out j (by omega)
          case measure => simp [intOf]; omega
      · obtain rfl : k = on := by omega
        have fa := fir_none ((dry_tips HC.out).symm.trans (lead_eq (p := fun j => tgK r xs j == 0) (n := xs.length) (r := xs.length) (Nat.le_refl _) (fun j hj => by rw [HP.out j (by have := ON.out; omega)]; rfl) (fun h => absurd h (by omega))))
        have FA := Lib.hid fa; clear fa
        go_wp2
        go_ret2
        exact ⟨by rw [FA.out.1, FA.out.2]; rfl, N1.out⟩
  · have h1f : rainB r xs = false := by simpa using h1
    have FA := Lib.hid (firB_false h1f)
    have HM := Lib.hid (show tipsM r xs = [] by unfold tipsM; rw [if_neg h1])
    go_enter Try.func10, Try.ntmps10
    go_wp2_with fail
    refine (gaugeRain_any _ _ _ _ _ xs HA.out).mono ?_
    rintro e w1 ⟨oa, on, oc, rfl, o1, n1⟩
    rw [HM.out] at o1
    obtain rfl : on = 0 := by simpa using o1.1
    clear o1
    go_wp2
    refine wp_loop_rounds 1 ?_
    rw [rounds_succ]
    go_wp2
    go_ret2
    exact ⟨by rw [FA.out.1, FA.out.2]; rfl, n1⟩
end Go.Proofs.Ytaonebglbcgghaa
