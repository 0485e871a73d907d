/- The model's functions on gauges. -/
import Derived.Test.YtaonebglbcgghaaGauge
import Derived.Test.YtaonebglbcgghaaBuckS
namespace Go.Proofs.Ytaonebglbcgghaa
open Go.RowKit

theorem l1Least_any (a b : Int) (w : World) : Calls Try.prog 34 #[.int .i64 a, .int .i64 b] w fun e w' => e = .returned (.int .i64 (min a b)) ∧ w = w' := by
  by_cases h : a < b
  · go_enter Try.func34, Try.ntmps34
    go_wp2
    go_ret
    exact ⟨ret_int (by omega), rfl⟩
  · go_enter Try.func34, Try.ntmps34
    go_wp2
    go_ret
    exact ⟨ret_int (by omega), rfl⟩

theorem l1Most_any (a b : Int) (w : World) : Calls Try.prog 33 #[.int .i64 a, .int .i64 b] w fun e w' => e = .returned (.int .i64 (max a b)) ∧ w = w' := by
  by_cases h : a > b
  · go_enter Try.func33, Try.ntmps33
    go_wp2
    go_ret
    exact ⟨ret_int (by omega), rfl⟩
  · go_enter Try.func33, Try.ntmps33
    go_wp2
    go_ret
    exact ⟨ret_int (by omega), rfl⟩

theorem tbRain_any (w : World) (r : Int) (aa : Option Addr) (n ca : Nat) (xs : List Int) (ha : Ints w aa n ca xs) :
    Calls Try.prog 24 #[.int .i64 r, .slice aa n ca] w fun e w' => e = .returned (.bool (rainB r xs)) ∧ w = w' := by
  have hm := ha.2.2.1
  have HA := Lib.hid ha; clear ha
  by_cases h1 : inB 1 60 r = true
  · by_cases hn : n ≤ 100
    · go_enter Try.func24, Try.ntmps24
      go_wp2_with fail
      refine (l1In_any _ _ _ _).mono ?_
      rintro e w9 ⟨rfl, rfl⟩
      go_wp2_with fail
      refine (l1All_any _ _ _ _ xs _ _ HA.out).mono ?_
      rintro e w9 ⟨rfl, rfl⟩
      go_wp2
      go_ret
      exact ⟨ret_bool (by unfold rainB dayB; rw [h1, decide_eq_true (show xs.length ≤ 100 by have := HA.out.len; omega)]; rfl), rfl⟩
    · have hf : decide ((n : Int) ≤ 100) = false := decide_eq_false (by omega)
      go_enter Try.func24, Try.ntmps24
      go_wp2_with fail
      refine (l1In_any _ _ _ _).mono ?_
      rintro e w9 ⟨rfl, rfl⟩
      go_wp2
      go_ret
      exact ⟨ret_bool (by unfold rainB dayB; rw [decide_eq_false (show ¬ xs.length ≤ 100 by have := HA.out.len; omega)]; simp), rfl⟩
  · have hf : inB 1 60 r = false := by simpa using h1
    go_enter Try.func24, Try.ntmps24
    go_wp2_with fail
    refine (l1In_any _ _ _ _).mono ?_
    rintro e w9 ⟨rfl, rfl⟩
    go_wp2
    go_ret
    exact ⟨ret_bool (by unfold rainB; rw [hf]; rfl), rfl⟩

set_option maxRecDepth 100000 in
theorem tbTips_any (w : World) (r : Int) (aa : Option Addr) (n ca : Nat) (xs : List Int) (ha : Ints w aa n ca xs) (hr : RainOk r xs) :
    Calls Try.prog 25 #[.int .i64 r, .slice aa n ca] w fun e w' => ∃ oa on oc, e = .returned (.tuple #[.slice oa on oc, .int .i64 (gaK r xs xs.length)]) ∧ Own w' w.heap.size w'.heap.size oa on oc (tgTo r xs xs.length) ∧ New w w' := by
  have HN := Lib.hid ha.1
  have hn : n ≤ 100 := by have := ha.1; have := hr.2.1; omega
  have r0 := hr.1
  have HA := Lib.hid ha; clear ha
  have HC := Lib.hid hr; clear hr
  have d0 : ¬ r = 0 := by omega
  obtain ⟨i0, hi, hz0, hz1, hz2⟩ := info_parts Try.infoInt
  go_enter Try.func25, Try.ntmps25
  go_wp2
  go_loopw [6, 7, 12] (fun vo y i wr => ∃ k : Nat, k ≤ n ∧ i = .int .i64 k ∧ y = .int .i64 (gaK r xs k) ∧ New w wr ∧ wr.ownsRow w.heap.size 3 1 vo k ((tgTo r xs k).map (Value.int .i64))) (fun _ _ i _ => n - (intOf i).toNat)
  case atStart => exact ⟨0, Nat.zero_le _, rfl, rfl, (by repeat (first | with_reducible exact New.refl _ | with_reducible assumption | refine New.drewN ?_ _ | refine New.drew ?_ | refine New.alloc ?_ _ | refine New.setCell ?_ (by first | omega | (simp; omega) | (simp; done)) _ | (refine New.trans ?_ (by assumption)))), World.ownsRow_nil _ _ _ _⟩
  case round =>
    obtain ⟨k, hk, rfl, rfl, hnw, hro⟩ := hrel
    have NW := Lib.hid hnw; clear hnw
    have RO := Lib.hid hro; clear hro
    by_cases hlt : k < n
    · obtain ⟨b, o, rfl, hcl, _⟩ := (HA.out.new NW.out).at hlt
      have KC := Lib.hid (show k < xs.length by have := HN.out; omega)
      have q0 := gaK_bd HC.out k (by have := KC.out; omega)
      have q1 := HC.out.2.2 k KC.out
      have q3 := tgK_bd HC.out KC.out
      have q4 := gaK_bd HC.out (k + 1) (by have := KC.out; omega)
      have e2 : (gaK r xs k + xs[k]?.getD 0) / r = tgK r xs k := rfl
      have e3 : (gaK r xs k + xs[k]?.getD 0) % r = gaK r xs (k + 1) := rfl
      rw [← e2] at q3
      rw [← e3] at q4
      obtain ⟨d, hd⟩ : ∃ d, d = xs[k]?.getD 0 := ⟨_, rfl⟩
      obtain ⟨y, hy⟩ : ∃ y, y = gaK r xs k := ⟨_, rfl⟩
      rw [← hd] at hcl q1 e2 e3 q3 q4
      rw [← hy] at q0 e2 e3 q3 q4 ⊢
      have E := Lib.hid (And.intro e2 e3); clear e2 e3 hd hy
      have w0 : IntKind.i64.wrap (y + d) = y + d := IntWalk.i64_in _ (by omega)
      have w1 : IntKind.i64.wrap ((y + d) / r) = (y + d) / r := IntWalk.i64_in _ (by omega)
      have zb := NW.out.size
      go_wp2_with (at_builtin; (refine wpList_append_lies _ (by rfl) (.tmp 16) (.tmp 22) 24 (by rfl) w.heap.size 3 i0 (.int .i64 0) 1 8 Try.underlying24 hi hz0 hz1 hz2 rfl (by decide) _ k _ (by rfl) (ownsRow_new RO.out (by repeat (first | with_reducible exact New.refl _ | with_reducible assumption | refine New.drewN ?_ _ | refine New.drew ?_ | refine New.alloc ?_ _ | refine New.setCell ?_ (by first | omega | (simp; omega) | (simp; done)) _ | (refine New.trans ?_ (by assumption))))) _ _ _ [.int .i64 ((y + d) / r)] (by rfl) (by rfl) (World.news_of_block (cs := #[.int .i64 ((y + d) / r)]) (t := 3) (fr := (0, 0)) (heap_alloc_at (by simp))) (by simp [Value.oneCell']) (by omega) (by unfold maxLen; omega) (by omega) (by first | omega | (simp; omega) | (simp; done)) _ rfl ?_; intro g cap w3 ho hg hb' hlt'; have N3 := Lib.hid (New.grown (NW.out.trans (by repeat (first | with_reducible exact New.refl _ | with_reducible assumption | refine New.drewN ?_ _ | refine New.drew ?_ | refine New.alloc ?_ _ | refine New.setCell ?_ (by first | omega | (simp; omega) | (simp; done)) _ | (refine New.trans ?_ (by assumption))))) (ownsRow_new RO.out (by repeat (first | with_reducible exact New.refl _ | with_reducible assumption | refine New.drewN ?_ _ | refine New.drew ?_ | refine New.alloc ?_ _ | refine New.setCell ?_ (by first | omega | (simp; omega) | (simp; done)) _ | (refine New.trans ?_ (by assumption))))) (Nat.le_refl _) hg); have RO3 := Lib.hid ho; clear ho hg hb' hlt'))
      go_roundw
      case rel =>
        refine ⟨k + 1, by omega, by go_num, by rw [E.out.2], N3.out, ?_⟩
        rw [tgTo_succ, List.map_append, ← E.out.1]
        exact RO3.out
      case measure => simp [intOf]; omega
    · obtain rfl : k = n := by omega
      go_wp2
      obtain ⟨oa, oc, e1, o1⟩ := Own.of_row RO.out
      subst e1
      go_ret2
      exact ⟨_, _, _, by rw [← HN.out]; rfl, (show tgTo r xs k = tgTo r xs xs.length by rw [HN.out]) ▸ o1, NW.out⟩

theorem sTipsOfRain_any (w : World) (r : Int) (aa : Option Addr) (n ca : Nat) (xs : List Int) (ha : Ints w aa n ca xs) :
    Calls Try.prog 7 #[.int .i64 r, .slice aa n ca] w fun e w' => ∃ oa on oc, e = .returned (.tuple #[.slice oa on oc, .bool (rainB r xs)]) ∧ Own w' w.heap.size w'.heap.size oa on oc (tipsM r xs) ∧ New w w' := by
  have HA := Lib.hid ha; clear ha
  by_cases h1 : rainB r xs = true
  · have HM := Lib.hid (show tipsM r xs = tgTo r xs xs.length by unfold tipsM; rw [if_pos h1])
    have HC := Lib.hid (rainB_iff.1 h1)
    go_enter Try.func7, Try.ntmps7
    go_wp2_with fail
    refine (tbRain_any _ _ _ _ _ xs HA.out).mono ?_
    rintro e w9 ⟨rfl, rfl⟩
    go_wp2_with fail
    refine (tbTips_any _ _ _ _ _ xs HA.out HC.out).mono ?_
    rintro e w9 ⟨oa, on, oc, rfl, o1, n1⟩
    go_wp2
    go_ret2
    rw [HM.out]
    exact ⟨_, _, _, by rw [h1]; rfl, o1, n1⟩
  · have hf : rainB r xs = false := by simpa using h1
    have HM := Lib.hid (show tipsM r xs = [] by unfold tipsM; rw [if_neg h1])
    go_enter Try.func7, Try.ntmps7
    go_wp2_with fail
    refine (tbRain_any _ _ _ _ _ xs HA.out).mono ?_
    rintro e w9 ⟨rfl, rfl⟩
    go_wp2
    go_ret2
    rw [HM.out]
    exact ⟨_, _, _, by rw [hf]; rfl, Own.nil _ _ _, New.refl _⟩

theorem sRestOfRain_any (w : World) (r : Int) (aa : Option Addr) (n ca : Nat) (xs : List Int) (ha : Ints w aa n ca xs) :
    Calls Try.prog 9 #[.int .i64 r, .slice aa n ca] w fun e w' => e = .returned (.tuple #[.int .i64 (restM r xs), .bool (rainB r xs)]) ∧ New w w' := by
  have HA := Lib.hid ha; clear ha
  by_cases h1 : rainB r xs = true
  · have HM := Lib.hid (show restM r xs = gaK r xs xs.length by unfold restM; rw [if_pos h1])
    have HC := Lib.hid (rainB_iff.1 h1)
    go_enter Try.func9, Try.ntmps9
    go_wp2_with fail
    refine (tbRain_any _ _ _ _ _ xs HA.out).mono ?_
    rintro e w9 ⟨rfl, rfl⟩
    go_wp2_with fail
    refine (tbTips_any _ _ _ _ _ xs HA.out HC.out).mono ?_
    rintro e w9 ⟨oa, on, oc, rfl, o1, n1⟩
    go_wp2
    go_ret2
    exact ⟨by rw [HM.out, h1]; rfl, n1⟩
  · have hf : rainB r xs = false := by simpa using h1
    have HM := Lib.hid (show restM r xs = 0 by unfold restM; rw [if_neg h1])
    go_enter Try.func9, Try.ntmps9
    go_wp2_with fail
    refine (tbRain_any _ _ _ _ _ xs HA.out).mono ?_
    rintro e w9 ⟨rfl, rfl⟩
    go_wp2
    go_ret2
    exact ⟨by rw [HM.out, hf]; rfl, New.refl _⟩

theorem veSum_any (w : World) (r : Int) (aa : Option Addr) (n ca : Nat) (xs : List Int) (ha : Ints w aa n ca xs) (hr : RainOk r xs) :
    Calls Try.prog 30 #[.slice aa n ca] w fun e w' => e = .returned (.int .i64 (sumM xs)) ∧ w = w' := by
  have HN := Lib.hid ha.1
  have hn : n ≤ 100 := by have := ha.1; have := hr.2.1; omega
  have HA := Lib.hid ha; clear ha
  have HC := Lib.hid hr; clear hr
  go_enter Try.func30, Try.ntmps30
  go_wp2
  go_loop [3, 8] (fun y i => ∃ k : Nat, k ≤ n ∧ i = .int .i64 k ∧ y = .int .i64 (sumK xs k)) (fun _ i => n - (intOf i).toNat)
  case atStart => exact ⟨0, Nat.zero_le _, rfl, rfl⟩
  case round =>
    obtain ⟨k, hk, rfl, rfl⟩ := hrel
    by_cases hlt : k < n
    · obtain ⟨b1, o1, rfl, hc1, _⟩ := HA.out.at hlt
      have q1 := HC.out.2.2 k (by have := HN.out; omega)
      have q2 := sumK_bd HC.out k (by have := HN.out; omega)
      have ee : sumK xs (k + 1) = sumK xs k + xs[k]?.getD 0 := rfl
      obtain ⟨d, hd⟩ : ∃ d, d = xs[k]?.getD 0 := ⟨_, rfl⟩
      obtain ⟨y, hy⟩ : ∃ y, y = sumK xs k := ⟨_, rfl⟩
      rw [← hd] at hc1 q1 ee
      rw [← hy] at q2 ee ⊢
      have E := Lib.hid ee; clear ee hd hy
      have w1 : IntKind.i64.wrap (y + d) = y + d := IntWalk.i64_in _ (by omega)
      go_wp2
      go_round
      case rel => exact ⟨k + 1, by omega, by go_num, by rw [E.out]⟩
      case measure => simp [intOf]; omega
    · obtain rfl : k = n := by omega
      go_wp2
      go_ret
      exact ⟨ret_int (by unfold sumM; rw [← HN.out]), rfl⟩

theorem sRangeOfTips_any (w : World) (r : Int) (aa : Option Addr) (n ca : Nat) (xs : List Int) (ha : Ints w aa n ca xs) :
    Calls Try.prog 19 #[.int .i64 r, .slice aa n ca] w fun e w' => e = .returned (.tuple #[.int .i64 (lowM r xs), .int .i64 (highM r xs), .bool (rainB r xs)]) ∧ New w w' := by
  have HA := Lib.hid ha; clear ha
  by_cases h1 : rainB r xs = true
  · have HM := Lib.hid (show lowM r xs = r * sumM xs ∧ highM r xs = r * sumM xs + r - 1 by unfold lowM highM; rw [if_pos h1, if_pos h1]; exact ⟨rfl, rfl⟩)
    have hc := rainB_iff.1 h1
    obtain ⟨r0, r1⟩ := hc.1
    obtain ⟨s0, s1⟩ := sumM_bd hc
    obtain ⟨l0, l1⟩ := low_bd r0 r1 s0 s1
    have HC := Lib.hid hc; clear hc
    have w1 : IntKind.i64.wrap (r * sumM xs) = r * sumM xs := IntWalk.i64_in _ (by omega)
    have w2 : IntKind.i64.wrap (r * sumM xs + r) = r * sumM xs + r := IntWalk.i64_in _ (by omega)
    have w3 : IntKind.i64.wrap (r * sumM xs + r - 1) = r * sumM xs + r - 1 := IntWalk.i64_in _ (by omega)
    go_enter Try.func19, Try.ntmps19
    go_wp2_with fail
    refine (tbRain_any _ _ _ _ _ xs HA.out).mono ?_
    rintro e w9 ⟨rfl, rfl⟩
    go_wp2_with fail
    refine (veSum_any _ _ _ _ _ xs HA.out HC.out).mono ?_
    rintro e w9 ⟨rfl, rfl⟩
    go_wp2
    go_ret3
    exact ⟨by rw [HM.out.1, HM.out.2, h1]; rfl, New.refl _⟩
  · have hf : rainB r xs = false := by simpa using h1
    have HM := Lib.hid (show lowM r xs = 0 ∧ highM r xs = 0 by unfold lowM highM; rw [if_neg h1, if_neg h1]; exact ⟨rfl, rfl⟩)
    go_enter Try.func19, Try.ntmps19
    go_wp2_with fail
    refine (tbRain_any _ _ _ _ _ xs HA.out).mono ?_
    rintro e w9 ⟨rfl, rfl⟩
    go_wp2
    go_ret3
    exact ⟨by rw [HM.out.1, HM.out.2, hf]; rfl, New.refl _⟩

theorem two_no {a b : Int} {xs ys : List Int} (h : twoB a b xs ys = false) : twoLowM a b xs ys = 0 ∧ twoHighM a b xs ys = 0 := by
  unfold twoLowM twoHighM
  rw [if_neg (by rw [h]; decide), if_neg (by rw [h]; decide)]
  exact ⟨rfl, rfl⟩
theorem two_yes {a b : Int} {xs ys : List Int} (h : twoB a b xs ys = true) : twoLowM a b xs ys = twoLow a b xs ys ∧ twoHighM a b xs ys = twoHigh a b xs ys := by
  unfold twoLowM twoHighM
  rw [if_pos h, if_pos h]
  exact ⟨rfl, rfl⟩

set_option maxRecDepth 100000 in
theorem sRangeOfTwo_any (w : World) (a b : Int) (aa ab : Option Addr) (n m ca cb : Nat) (xs ys : List Int) (ha : Ints w aa n ca xs) (hb : Ints w ab m cb ys) :
    Calls Try.prog 21 #[.int .i64 a, .int .i64 b, .slice aa n ca, .slice ab m cb] w fun e w' => e = .returned (.tuple #[.int .i64 (twoLowM a b xs ys), .int .i64 (twoHighM a b xs ys), .bool (twoB a b xs ys)]) ∧ New w w' := by
  have HA := Lib.hid ha; clear ha
  have HB := Lib.hid hb; clear hb
  by_cases h1 : rainB a xs = true
  · by_cases h2 : rainB b ys = true
    · have hc := rainB_iff.1 h1
      have hd := rainB_iff.1 h2
      obtain ⟨r0, r1⟩ := hc.1
      obtain ⟨s0, s1⟩ := sumM_bd hc
      obtain ⟨l0, l1⟩ := low_bd r0 r1 s0 s1
      obtain ⟨t0, t1⟩ := hd.1
      obtain ⟨u0, u1⟩ := sumM_bd hd
      obtain ⟨m0, m1⟩ := low_bd t0 t1 u0 u1
      have HC := Lib.hid (And.intro hc hd); clear hc hd
      have w1 : IntKind.i64.wrap (a * sumM xs) = a * sumM xs := IntWalk.i64_in _ (by omega)
      have w2 : IntKind.i64.wrap (a * sumM xs + a) = a * sumM xs + a := IntWalk.i64_in _ (by omega)
      have w3 : IntKind.i64.wrap (b * sumM ys) = b * sumM ys := IntWalk.i64_in _ (by omega)
      have w4 : IntKind.i64.wrap (b * sumM ys + b) = b * sumM ys + b := IntWalk.i64_in _ (by omega)
      have w5 : IntKind.i64.wrap (min (a * sumM xs + a) (b * sumM ys + b) - 1) = min (a * sumM xs + a) (b * sumM ys + b) - 1 := IntWalk.i64_in _ (by omega)
      have HE := Lib.hid (show twoB a b xs ys = decide (twoLow a b xs ys ≤ twoHigh a b xs ys) by unfold twoB; rw [h1, h2]; rfl)
      go_enter Try.func21, Try.ntmps21
      go_wp2_with fail
      refine (tbRain_any _ _ _ _ _ xs HA.out).mono ?_
      rintro e w9 ⟨rfl, rfl⟩
      go_wp2_with fail
      refine (tbRain_any _ _ _ _ _ ys HB.out).mono ?_
      rintro e w9 ⟨rfl, rfl⟩
      go_wp2_with fail
      refine (veSum_any _ _ _ _ _ xs HA.out HC.out.1).mono ?_
      rintro e w9 ⟨rfl, rfl⟩
      go_wp2_with fail
      refine (veSum_any _ _ _ _ _ ys HB.out HC.out.2).mono ?_
      rintro e w9 ⟨rfl, rfl⟩
      go_wp2_with fail
      refine (l1Most_any _ _ _).mono ?_
      rintro e w9 ⟨rfl, rfl⟩
      go_wp2_with fail
      refine (veSum_any _ _ _ _ _ xs HA.out HC.out.1).mono ?_
      rintro e w9 ⟨rfl, rfl⟩
      go_wp2_with fail
      refine (veSum_any _ _ _ _ _ ys HB.out HC.out.2).mono ?_
      rintro e w9 ⟨rfl, rfl⟩
      go_wp2_with fail
      refine (l1Least_any _ _ _).mono ?_
      rintro e w9 ⟨rfl, rfl⟩
      obtain ⟨lo, hlo⟩ : ∃ lo, lo = max (a * sumM xs) (b * sumM ys) := ⟨_, rfl⟩
      obtain ⟨hi, hhi⟩ : ∃ hi, hi = min (a * sumM xs + a) (b * sumM ys + b) := ⟨_, rfl⟩
      rw [← hhi] at w5
      rw [← hlo, ← hhi]
      have HX := Lib.hid (And.intro hlo hhi); clear hlo hhi w1 w2 w3 w4
      by_cases hgt : hi - 1 < lo
      · have hf : twoB a b xs ys = false := by
          rw [HE.out]
          refine decide_eq_false fun h => ?_
          unfold twoLow twoHigh at h
          rw [← HX.out.1, ← HX.out.2] at h
          omega
        have HZ := Lib.hid (two_no hf)
        have HF := Lib.hid hf; clear hf
        go_wp2
        go_ret3
        exact ⟨by rw [HZ.out.1, HZ.out.2, HF.out]; rfl, New.refl _⟩
      · have hf : twoB a b xs ys = true := by
          rw [HE.out]
          refine decide_eq_true ?_
          unfold twoLow twoHigh
          rw [← HX.out.1, ← HX.out.2]
          omega
        have HZ := Lib.hid (two_yes hf)
        have HF := Lib.hid hf; clear hf
        go_wp2
        go_ret3
        refine ⟨?_, New.refl _⟩
        rw [HZ.out.1, HZ.out.2, HF.out]
        unfold twoLow twoHigh
        rw [← HX.out.1, ← HX.out.2]
        rfl
    · have h2f : rainB b ys = false := by simpa using h2
      have hf : twoB a b xs ys = false := by unfold twoB; rw [h2f]; simp
      have HZ := Lib.hid (two_no hf)
      have HF := Lib.hid hf; clear hf
      go_enter Try.func21, Try.ntmps21
      go_wp2_with fail
      refine (tbRain_any _ _ _ _ _ xs HA.out).mono ?_
      rintro e w9 ⟨rfl, rfl⟩
      go_wp2_with fail
      refine (tbRain_any _ _ _ _ _ ys HB.out).mono ?_
      rintro e w9 ⟨rfl, rfl⟩
      go_wp2
      go_ret3
      exact ⟨by rw [HZ.out.1, HZ.out.2, HF.out]; rfl, New.refl _⟩
  · have h1f : rainB a xs = false := by simpa using h1
    have hf : twoB a b xs ys = false := by unfold twoB; rw [h1f]; rfl
    have HZ := Lib.hid (two_no hf)
    have HF := Lib.hid hf; clear hf
    go_enter Try.func21, Try.ntmps21
    go_wp2_with fail
    refine (tbRain_any _ _ _ _ _ xs HA.out).mono ?_
    rintro e w9 ⟨rfl, rfl⟩
    go_wp2
    go_ret3
    exact ⟨by rw [HZ.out.1, HZ.out.2, HF.out]; rfl, New.refl _⟩

set_option maxRecDepth 100000 in
theorem sRainOfTips_any (w : World) (r : Int) (aa : Option Addr) (n ca : Nat) (xs : List Int) (ha : Ints w aa n ca xs) :
    Calls Try.prog 18 #[.int .i64 r, .slice aa n ca] w fun e w' => ∃ oa on oc, e = .returned (.tuple #[.slice oa on oc, .bool (madeB r xs)]) ∧ Own w' w.heap.size w'.heap.size oa on oc (madeM r xs) ∧ New w w' := by
  have HN := Lib.hid ha.1
  have HA := Lib.hid ha; clear ha
  by_cases h1 : rainB r xs = true
  · have hr := rainB_iff.1 h1
    have hn : n ≤ 100 := by have := HN.out; have := hr.2.1; omega
    have r0 := hr.1
    have HC := Lib.hid hr; clear hr
    obtain ⟨i0, hi, hz0, hz1, hz2⟩ := info_parts Try.infoInt
    go_enter Try.func18, Try.ntmps18
    go_wp2_with fail
    refine (tbRain_any _ _ _ _ _ xs HA.out).mono ?_
    rintro e w9 ⟨rfl, rfl⟩
    go_wp2
    go_loopw [6, 15] (fun vo i wr => ∃ k : Nat, k ≤ n ∧ i = .int .i64 k ∧ New w wr ∧ wr.ownsRow w.heap.size 3 1 vo k ((mulTo r xs k).map (Value.int .i64))) (fun _ i _ => n - (intOf i).toNat)
    case atStart => exact ⟨0, Nat.zero_le _, rfl, (by repeat (first | with_reducible exact New.refl _ | with_reducible assumption | refine New.drewN ?_ _ | refine New.drew ?_ | refine New.alloc ?_ _ | refine New.setCell ?_ (by first | omega | (simp; omega) | (simp; done)) _ | (refine New.trans ?_ (by assumption)))), World.ownsRow_nil _ _ _ _⟩
    case round =>
      obtain ⟨k, hk, rfl, hnw, hro⟩ := hrel
      have NW := Lib.hid hnw; clear hnw
      have RO := Lib.hid hro; clear hro
      by_cases hlt : k < n
      · obtain ⟨b, o, rfl, hcl, _⟩ := (HA.out.new NW.out).at hlt
        have KC := Lib.hid (show k < xs.length by have := HN.out; omega)
        have q1 := HC.out.2.2 k KC.out
        obtain ⟨d, hd⟩ : ∃ d, d = xs[k]?.getD 0 := ⟨_, rfl⟩
        rw [← hd] at hcl q1
        have E := Lib.hid hd; clear hd
        have m0 : 0 ≤ d * r := Int.mul_nonneg q1.1 (by omega)
        have m1 : d * r ≤ 10000 * 60 := Int.mul_le_mul q1.2 r0.2 (by omega) (by omega)
        have w1 : IntKind.i64.wrap (d * r) = d * r := IntWalk.i64_in _ (by omega)
        have zb := NW.out.size
        go_wp2_with (at_builtin; (refine wpList_append_lies _ (by rfl) (.tmp 19) (.tmp 23) 24 (by rfl) w.heap.size 3 i0 (.int .i64 0) 1 8 Try.underlying24 hi hz0 hz1 hz2 rfl (by decide) _ k _ (by rfl) (ownsRow_new RO.out (by repeat (first | with_reducible exact New.refl _ | with_reducible assumption | refine New.drewN ?_ _ | refine New.drew ?_ | refine New.alloc ?_ _ | refine New.setCell ?_ (by first | omega | (simp; omega) | (simp; done)) _ | (refine New.trans ?_ (by assumption))))) _ _ _ [.int .i64 (d * r)] (by rfl) (by rfl) (World.news_of_block (cs := #[.int .i64 (d * r)]) (t := 3) (fr := (0, 0)) (heap_alloc_at (by simp))) (by simp [Value.oneCell']) (by omega) (by unfold maxLen; omega) (by omega) (by first | omega | (simp; omega) | (simp; done)) _ rfl ?_; intro g cap w3 ho hg hb' hlt'; have N3 := Lib.hid (New.grown (NW.out.trans (by repeat (first | with_reducible exact New.refl _ | with_reducible assumption | refine New.drewN ?_ _ | refine New.drew ?_ | refine New.alloc ?_ _ | refine New.setCell ?_ (by first | omega | (simp; omega) | (simp; done)) _ | (refine New.trans ?_ (by assumption))))) (ownsRow_new RO.out (by repeat (first | with_reducible exact New.refl _ | with_reducible assumption | refine New.drewN ?_ _ | refine New.drew ?_ | refine New.alloc ?_ _ | refine New.setCell ?_ (by first | omega | (simp; omega) | (simp; done)) _ | (refine New.trans ?_ (by assumption))))) (Nat.le_refl _) hg); have RO3 := Lib.hid ho; clear ho hg hb' hlt'))
        go_roundw
        case rel =>
          refine ⟨k + 1, by omega, by go_num, N3.out, ?_⟩
          rw [mulTo_succ, List.map_append, ← E.out]
          exact RO3.out
        case measure => simp [intOf]; omega
      · obtain rfl : k = n := by omega
        obtain ⟨oa, oc, e1, o1⟩ := Own.of_row RO.out
        subst e1
        have O1 := Lib.hid ((show mulTo r xs k = mulTo r xs xs.length by rw [HN.out]) ▸ o1); clear o1
        go_wp2_with fail
        refine (l1All_any _ _ _ _ (mulTo r xs xs.length) _ _ O1.out.ints).mono ?_
        rintro e w9 ⟨rfl, rfl⟩
        by_cases h2 : allB 0 10000 (mulTo r xs xs.length) = true
        · have hb : madeB r xs = true := by unfold madeB; rw [h1, h2]; rfl
          have HM := Lib.hid (show madeM r xs = mulTo r xs xs.length by unfold madeM; rw [if_pos hb])
          have HB := Lib.hid hb; clear hb
          go_wp2
          go_ret2
          rw [HM.out, HB.out]
          exact ⟨_, _, _, rfl, O1.out, NW.out⟩
        · have h2f : allB 0 10000 (mulTo r xs xs.length) = false := by simpa using h2
          have hb : madeB r xs = false := by unfold madeB; rw [h2f]; simp
          have HM := Lib.hid (show madeM r xs = [] by unfold madeM; rw [if_neg (by rw [hb]; decide)])
          have HB := Lib.hid hb; clear hb
          go_wp2
          go_ret2
          rw [HM.out, HB.out]
          exact ⟨_, _, _, rfl, Own.nil _ _ _, NW.out⟩
  · have h1f : rainB r xs = false := by simpa using h1
    have hb : madeB r xs = false := by unfold madeB; rw [h1f]; rfl
    have HM := Lib.hid (show madeM r xs = [] by unfold madeM; rw [if_neg (by rw [hb]; decide)])
    have HB := Lib.hid hb; clear hb
    go_enter Try.func18, Try.ntmps18
    go_wp2_with fail
    refine (tbRain_any _ _ _ _ _ xs HA.out).mono ?_
    rintro e w9 ⟨rfl, rfl⟩
    go_wp2
    go_ret2
    rw [HM.out, HB.out]
    exact ⟨_, _, _, rfl, Own.nil _ _ _, New.refl _⟩

theorem sFirstTip_any (w : World) (r : Int) (aa : Option Addr) (n ca : Nat) (xs : List Int) (ha : Ints w aa n ca xs) :
    Calls Try.prog 11 #[.int .i64 r, .slice aa n ca] w fun e w' => e = .returned (.tuple #[.int .i64 (firI r xs), .bool (firB r xs)]) ∧ New w w' := by
  have HN := Lib.hid ha.1
  have HA := Lib.hid ha; clear ha
  by_cases h1 : rainB r xs = true
  · have hr := rainB_iff.1 h1
    have hn : n ≤ 100 := by have := HN.out; have := hr.2.1; omega
    have r0 := hr.1
    have HC := Lib.hid hr; clear hr
    have H1 := Lib.hid h1
    go_enter Try.func11, Try.ntmps11
    go_wp2_with fail
    refine (tbRain_any _ _ _ _ _ xs HA.out).mono ?_
    rintro e w9 ⟨rfl, rfl⟩
    go_wp2
    go_loop [6, 15] (fun y i => ∃ k : Nat, k ≤ n ∧ i = .int .i64 k ∧ y = .int .i64 (sumK xs k) ∧ ∀ j, j < k → sumK xs (j + 1) < r) (fun _ i => n - (intOf i).toNat)
    case atStart => exact ⟨0, Nat.zero_le _, rfl, rfl, fun j hj => absurd hj (by omega)⟩
    case round =>
      obtain ⟨k, hk, rfl, rfl, hpre⟩ := hrel
      have HP := Lib.hid hpre; clear hpre
      by_cases hlt : k < n
      · obtain ⟨b, o, rfl, hcl, _⟩ := HA.out.at hlt
        have KC := Lib.hid (show k < xs.length by have := HN.out; omega)
        have q1 := HC.out.2.2 k KC.out
        have q2 := sumK_bd HC.out k (by have := KC.out; omega)
        have ee : sumK xs (k + 1) = sumK xs k + xs[k]?.getD 0 := rfl
        obtain ⟨d, hd⟩ : ∃ d, d = xs[k]?.getD 0 := ⟨_, rfl⟩
        obtain ⟨y, hy⟩ : ∃ y, y = sumK xs k := ⟨_, rfl⟩
        rw [← hd] at hcl q1 ee
        rw [← hy] at q2 ee ⊢
        have E := Lib.hid ee; clear ee hd hy
        have w1 : IntKind.i64.wrap (y + d) = y + d := IntWalk.i64_in _ (by omega)
        by_cases hge : r ≤ y + d
        · have fa := fir_at H1.out KC.out (lead_eq (p := fun j => decide (sumK xs (j + 1) < r)) (by have := KC.out; omega) (fun j hj => decide_eq_true (HP.out j hj)) (fun _ => decide_eq_false (by rw [E.out]; omega)))
          have FA := Lib.hid fa; clear fa
          go_wp2
          go_ret2
          exact ⟨by rw [FA.out.1, FA.out.2]; rfl, New.refl _⟩
        · go_wp2
          go_round
          case rel =>
            refine ⟨k + 1, by omega, by go_num, by rw [E.out], fun j hj => ?_⟩
            by_cases e : j = k
            · subst e; rw [E.out]; omega
            · exact HP.out j (by omega)
          case measure => simp [intOf]; omega
      · obtain rfl : k = n := by omega
        have fa := fir_none (lead_eq (p := fun j => decide (sumK xs (j + 1) < r)) (n := xs.length) (r := xs.length) (Nat.le_refl _) (fun j hj => decide_eq_true (HP.out j (by have := HN.out; omega))) (fun h => absurd h (by omega)))
        have FA := Lib.hid fa; clear fa
        go_wp2
        go_ret2
        exact ⟨by rw [FA.out.1, FA.out.2]; rfl, New.refl _⟩
  · have h1f : rainB r xs = false := by simpa using h1
    have FA := Lib.hid (firB_false h1f)
    go_enter Try.func11, Try.ntmps11
    go_wp2_with fail
    refine (tbRain_any _ _ _ _ _ xs HA.out).mono ?_
    rintro e w9 ⟨rfl, rfl⟩
    go_wp2
    go_ret2
    exact ⟨by rw [FA.out.1, FA.out.2]; rfl, New.refl _⟩
end Go.Proofs.Ytaonebglbcgghaa
