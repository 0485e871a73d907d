/- The model's functions on buckets. -/
import Derived.Test.YtbgbglalibjncaaBuck
import Derived.Test.YtbgbglalibjncaaRows2b
import Derived.Deep.RegionWith
namespace Go.Proofs.Ytbgbglalibjncaa
open Go.RowKit

theorem l1In_any (n lo hi : Int) (w : World) :
    Calls Try.prog 35 #[.int .i64 n, .int .i64 lo, .int .i64 hi] w fun e w' => e = .returned (.bool (inB lo hi n)) ∧ w = w' := by
  by_cases h1 : lo ≤ n
  · go_enter Try.func35, Try.ntmps35
    go_wp2
    go_ret
    exact ⟨ret_bool (by simp [inB, h1]), rfl⟩
  · have h2 : decide (lo ≤ n) = false := by simpa using h1
    go_enter Try.func35, Try.ntmps35
    go_wp2
    go_ret
    exact ⟨ret_bool (by unfold inB; rw [h2]; rfl), rfl⟩

theorem l1All_any (w : World) (aa : Option Addr) (n ca : Nat) (l : List Int) (lo hi : Int) (ha : Ints w aa n ca l) :
    Calls Try.prog 44 #[.slice aa n ca, .int .i64 lo, .int .i64 hi] w fun e w' => e = .returned (.bool (allB lo hi l)) ∧ w = w' := by
  have HA := Lib.hid ha; clear ha
  have hm := HA.out.2.2.1
  go_enter Try.func44, Try.ntmps44
  go_wp2
  go_loop [11] (fun i => ∃ k : Nat, k ≤ n ∧ i = .int .i64 k ∧ ∀ j, j < k → inB lo hi (l[j]?.getD 0) = true) (fun i => n - (intOf i).toNat)
  case atStart => exact ⟨0, Nat.zero_le _, rfl, fun j hj => absurd hj (by omega)⟩
  case round =>
    obtain ⟨k, hk, rfl, hpre⟩ := hrel
    have HP := Lib.hid hpre; clear hpre
    by_cases hlt : k < n
    · obtain ⟨b, o, rfl, hc, _⟩ := HA.out.at hlt
      go_wp2_with (go_at_call 35; refine (l1In_any _ _ _ _).mono ?_; rintro e w' ⟨rfl, rfl⟩)
      · have hb : inB lo hi (l[k]?.getD 0) = false := by rw [← Bool.not_eq_true']; assumption
        go_ret
        refine ⟨ret_bool ?_, rfl⟩
        symm
        rw [← Bool.not_eq_true, allB_iff]
        intro h
        rw [inB_false] at hb
        exact hb (h k (by have := HA.out.len; omega))
      · have hb : inB lo hi (l[k]?.getD 0) = true := by rw [← Bool.not_eq_false']; assumption
        go_round
        case rel =>
          refine ⟨k + 1, by omega, by go_num, fun j hj => ?_⟩
          by_cases e : j = k
          · subst e; exact hb
          · exact HP.out j (by omega)
        case measure => simp [intOf]; omega
    · go_wp2
      go_ret
      refine ⟨ret_bool ?_, rfl⟩
      symm
      rw [allB_iff]
      intro j hj
      exact inB_iff.1 (HP.out j (by have := HA.out.len; omega))

theorem tbCaps_any (w : World) (aa : Option Addr) (n ca : Nat) (c : List Int) (ha : Ints w aa n ca c) :
    Calls Try.prog 30 #[.slice aa n ca] w fun e w' => e = .returned (.bool (capsB c)) ∧ w = w' := by
  have hm := ha.2.2.1
  have HA := Lib.hid ha; clear ha
  by_cases hn : inB 1 6 (n : Int) = true
  · go_enter Try.func30, Try.ntmps30
    go_wp2_with fail
    refine (l1In_any _ _ _ _).mono ?_
    rintro e w9 ⟨rfl, rfl⟩
    go_wp2_with fail
    refine (l1All_any _ _ _ _ c _ _ HA.out).mono ?_
    rintro e w9 ⟨rfl, rfl⟩
    go_wp2
    go_ret
    exact ⟨ret_bool (by unfold capsB; rw [← HA.out.len, hn]; rfl), rfl⟩
  · have hf : inB 1 6 (n : Int) = false := by simpa using hn
    go_enter Try.func30, Try.ntmps30
    go_wp2_with fail
    refine (l1In_any _ _ _ _).mono ?_
    rintro e w9 ⟨rfl, rfl⟩
    go_wp2
    go_ret
    exact ⟨ret_bool (by unfold capsB; rw [← HA.out.len, hf]; rfl), rfl⟩

theorem tbDrops_any (w : World) (x : Int) :
    Calls Try.prog 31 #[.int .i64 x] w fun e w' => e = .returned (.bool (dropB x)) ∧ w = w' := by
  go_enter Try.func31, Try.ntmps31
  go_wp2_with fail
  refine (l1In_any _ _ _ _).mono ?_
  rintro e w9 ⟨rfl, rfl⟩
  go_wp2
  go_ret
  exact ⟨rfl, rfl⟩

theorem sAreCaps_any (w : World) (aa : Option Addr) (n ca : Nat) (c : List Int) (ha : Ints w aa n ca c) :
    Calls Try.prog 16 #[.slice aa n ca] w fun e w' => e = .returned (.bool (capsB c)) ∧ New w w' := by
  have HA := Lib.hid ha; clear ha
  go_enter Try.func16, Try.ntmps16
  go_wp2_with fail
  refine (tbCaps_any _ _ _ _ c HA.out).mono ?_
  rintro e w9 ⟨rfl, rfl⟩
  go_wp2
  go_ret
  exact ⟨rfl, New.refl _⟩

set_option maxRecDepth 100000 in
theorem tbHeld_any (w : World) (aa : Option Addr) (n ca : Nat) (c : List Int) (x : Int) (ha : Ints w aa n ca c) (hc : CapsOk c) (x0 : 0 ≤ x) (x1 : x ≤ 1000000000000) :
    Calls Try.prog 32 #[.slice aa n ca, .int .i64 x] w fun e w' => ∃ oa on oc, e = .returned (.slice oa on oc) ∧ Own w' w.heap.size w'.heap.size oa on oc (rstTo c (zeros c.length) x c.length) ∧ New w w' := by
  have HN := Lib.hid ha.1
  have hn : n ≤ 6 := by have := ha.1; have := hc.1.2; omega
  have HA := Lib.hid ha; clear ha
  have HC := Lib.hid hc; clear hc
  obtain ⟨i0, hi, hz0, hz1, hz2⟩ := info_parts Try.infoInt
  go_enter Try.func32, Try.ntmps32
  go_wp2
  go_loopw [1, 5, 10] (fun y vo i wr => ∃ k : Nat, k ≤ n ∧ i = .int .i64 k ∧ y = .int .i64 (carK c (zeros c.length) x k) ∧ New w wr ∧ wr.ownsRow w.heap.size 3 1 vo k ((rstTo c (zeros c.length) x k).map (Value.int .i64))) (fun _ _ i _ => n - (intOf i).toNat)
  case atStart => exact ⟨0, Nat.zero_le _, rfl, rfl, (by repeat (first | with_reducible exact New.refl _ | with_reducible assumption | refine New.drewN ?_ _ | refine New.drew ?_ | refine New.alloc ?_ _ | refine New.setCell ?_ (by first | omega | (simp; omega) | (simp; done)) _ | (refine New.trans ?_ (by assumption)))), World.ownsRow_nil _ _ _ _⟩
  case round =>
    obtain ⟨k, hk, rfl, rfl, hnw, hro⟩ := hrel
    have NW := Lib.hid hnw; clear hnw
    have RO := Lib.hid hro; clear hro
    by_cases hlt : k < n
    · obtain ⟨b, o, rfl, hcl, _⟩ := (HA.out.new NW.out).at hlt
      have KC := Lib.hid (show k < c.length by have := HN.out; omega)
      have q0 := carK_bd HC.out (zeros_ok HC.out) x0 k (by have := KC.out; omega)
      have q1 := HC.out.2 k KC.out
      have q3 := carK_bd HC.out (zeros_ok HC.out) x0 (k + 1) (by have := KC.out; omega)
      have e2 : carK c (zeros c.length) x k % (c[k]?.getD 0) = rstK c (zeros c.length) x k := by unfold rstK; rw [zeros_get, Int.add_zero]
      have e3 : carK c (zeros c.length) x k / (c[k]?.getD 0) = carK c (zeros c.length) x (k + 1) := by
        conv => rhs; unfold carK
        rw [zeros_get, Int.add_zero]
      rw [← e3] at q3
      obtain ⟨d, hd⟩ : ∃ d, d = c[k]?.getD 0 := ⟨_, rfl⟩
      obtain ⟨y, hy⟩ : ∃ y, y = carK c (zeros c.length) x k := ⟨_, rfl⟩
      rw [← hd] at hcl q1 e2 e3 q3
      rw [← hy] at q0 e2 e3 q3 ⊢
      have E := Lib.hid (And.intro e2 e3); clear e2 e3 hd hy
      have w1 : IntKind.i64.wrap (y / d) = y / d := IntWalk.i64_in _ (by omega)
      have zb := NW.out.size
      have d0 : ¬ d = 0 := by omega
      go_wp2_with (at_builtin; (refine wpList_append_lies _ (by rfl) (.tmp 14) (.tmp 18) 24 (by rfl) w.heap.size 3 i0 (.int .i64 0) 1 8 Try.underlying24 hi hz0 hz1 hz2 rfl (by decide) _ k _ (by rfl) (ownsRow_new RO.out (by repeat (first | with_reducible exact New.refl _ | with_reducible assumption | refine New.drewN ?_ _ | refine New.drew ?_ | refine New.alloc ?_ _ | refine New.setCell ?_ (by first | omega | (simp; omega) | (simp; done)) _ | (refine New.trans ?_ (by assumption))))) _ _ _ [.int .i64 (y % d)] (by rfl) (by rfl) (World.news_of_block (cs := #[.int .i64 (y % d)]) (t := 3) (fr := (0, 0)) (heap_alloc_at (by simp))) (by simp [Value.oneCell']) (by omega) (by unfold maxLen; omega) (by omega) (by first | omega | (simp; omega) | (simp; done)) _ rfl ?_; intro g cap w3 ho hg hb' hlt'; have N3 := Lib.hid (New.grown (NW.out.trans (by repeat (first | with_reducible exact New.refl _ | with_reducible assumption | refine New.drewN ?_ _ | refine New.drew ?_ | refine New.alloc ?_ _ | refine New.setCell ?_ (by first | omega | (simp; omega) | (simp; done)) _ | (refine New.trans ?_ (by assumption))))) (ownsRow_new RO.out (by repeat (first | with_reducible exact New.refl _ | with_reducible assumption | refine New.drewN ?_ _ | refine New.drew ?_ | refine New.alloc ?_ _ | refine New.setCell ?_ (by first | omega | (simp; omega) | (simp; done)) _ | (refine New.trans ?_ (by assumption))))) (Nat.le_refl _) hg); have RO3 := Lib.hid ho; clear ho hg hb' hlt'))
      go_roundw
      case rel =>
        refine ⟨k + 1, by omega, by go_num, by rw [E.out.2], N3.out, ?_⟩
        rw [rstTo_succ, List.map_append, ← E.out.1]
        exact RO3.out
      case measure => simp [intOf]; omega
    · obtain rfl : k = n := by omega
      go_wp2
      obtain ⟨oa, oc, e1, o1⟩ := Own.of_row RO.out
      subst e1
      go_ret
      exact ⟨_, _, _, rfl, (show rstTo c (zeros c.length) x k = rstTo c (zeros c.length) x c.length by rw [HN.out]) ▸ o1, NW.out⟩

theorem hafM_no {c : List Int} {x : Int} (h : hafB c x = false) : hafM c x = [] := by unfold hafM; rw [if_neg (by rw [h]; decide)]
theorem tafM_no {c : List Int} {x : Int} (h : hafB c x = false) : tafM c x = [] := by unfold tafM; rw [if_neg (by rw [h]; decide)]

theorem sHeldAfter_any (w : World) (aa : Option Addr) (n ca : Nat) (c : List Int) (x : Int) (ha : Ints w aa n ca c) :
    Calls Try.prog 7 #[.slice aa n ca, .int .i64 x] w fun e w' => ∃ oa on oc, e = .returned (.tuple #[.slice oa on oc, .bool (hafB c x)]) ∧ Own w' w.heap.size w'.heap.size oa on oc (hafM c x) ∧ New w w' := by
  have HA := Lib.hid ha; clear ha
  by_cases h1 : capsB c = true
  · by_cases h2 : dropB x = true
    · have hh : hafB c x = true := by unfold hafB; rw [h1, h2]; rfl
      obtain ⟨hc, x0, x1⟩ := hafB_iff.1 hh
      have HM := Lib.hid (show hafM c x = rstTo c (zeros c.length) x c.length by unfold hafM; rw [if_pos hh])
      go_enter Try.func7, Try.ntmps7
      go_wp2_with fail
      refine (tbCaps_any _ _ _ _ c HA.out).mono ?_
      rintro e w9 ⟨rfl, rfl⟩
      go_wp2_with fail
      refine (tbDrops_any _ _).mono ?_
      rintro e w9 ⟨rfl, rfl⟩
      go_wp2_with fail
      refine (tbHeld_any _ _ _ _ c x HA.out hc x0 (by omega)).mono ?_
      rintro e w9 ⟨oa, on, oc, rfl, o1, n1⟩
      go_wp2
      go_ret2
      rw [HM.out, hh]
      exact ⟨_, _, _, rfl, o1, n1⟩
    · have h2f : dropB x = false := by simpa using h2
      have hf : hafB c x = false := by unfold hafB; rw [h2f]; simp
      rw [hafM_no hf, hf]
      go_enter Try.func7, Try.ntmps7
      go_wp2_with fail
      refine (tbCaps_any _ _ _ _ c HA.out).mono ?_
      rintro e w9 ⟨rfl, rfl⟩
      go_wp2_with fail
      refine (tbDrops_any _ _).mono ?_
      rintro e w9 ⟨rfl, rfl⟩
      go_wp2
      go_ret2
      exact ⟨_, _, _, rfl, Own.nil _ _ _, New.refl _⟩
  · have h1f : capsB c = false := by simpa using h1
    have hf : hafB c x = false := by unfold hafB; rw [h1f]; rfl
    rw [hafM_no hf, hf]
    go_enter Try.func7, Try.ntmps7
    go_wp2_with fail
    refine (tbCaps_any _ _ _ _ c HA.out).mono ?_
    rintro e w9 ⟨rfl, rfl⟩
    go_wp2
    go_ret2
    exact ⟨_, _, _, rfl, Own.nil _ _ _, New.refl _⟩

set_option maxRecDepth 100000 in
theorem sTipsAfter_any (w : World) (aa : Option Addr) (n ca : Nat) (c : List Int) (x : Int) (ha : Ints w aa n ca c) :
    Calls Try.prog 9 #[.slice aa n ca, .int .i64 x] w fun e w' => ∃ oa on oc, e = .returned (.tuple #[.slice oa on oc, .bool (hafB c x)]) ∧ Own w' w.heap.size w'.heap.size oa on oc (tafM c x) ∧ New w w' := by
  have HA := Lib.hid ha; clear ha
  by_cases h1 : capsB c = true
  · by_cases h2 : dropB x = true
    · have hh : hafB c x = true := by unfold hafB; rw [h1, h2]; rfl
      obtain ⟨hc, x0, x1⟩ := hafB_iff.1 hh
      have HM := Lib.hid (show tafM c x = tipTo c (zeros c.length) x c.length by unfold tafM; rw [if_pos hh])
      have HH := Lib.hid hh; clear hh
      have HN := Lib.hid HA.out.1
      have hn : n ≤ 6 := by have := HN.out; have := hc.1.2; omega
      have HC := Lib.hid hc; clear hc
      obtain ⟨i0, hi, hz0, hz1, hz2⟩ := info_parts Try.infoInt
      go_enter Try.func9, Try.ntmps9
      go_wp2_with fail
      refine (tbCaps_any _ _ _ _ c HA.out).mono ?_
      rintro e w9 ⟨rfl, rfl⟩
      go_wp2_with fail
      refine (tbDrops_any _ _).mono ?_
      rintro e w9 ⟨rfl, rfl⟩
      go_wp2
      go_loopw [1, 6, 19] (fun y vo i wr => ∃ k : Nat, k ≤ n ∧ i = .int .i64 k ∧ y = .int .i64 (carK c (zeros c.length) x k) ∧ New w wr ∧ wr.ownsRow w.heap.size 3 1 vo k ((tipTo c (zeros c.length) x k).map (Value.int .i64))) (fun _ _ i _ => n - (intOf i).toNat)
      case atStart => exact ⟨0, Nat.zero_le _, rfl, rfl, (by repeat (first | with_reducible exact New.refl _ | with_reducible assumption | refine New.drewN ?_ _ | refine New.drew ?_ | refine New.alloc ?_ _ | refine New.setCell ?_ (by first | omega | (simp; omega) | (simp; done)) _ | (refine New.trans ?_ (by assumption)))), World.ownsRow_nil _ _ _ _⟩
      case round =>
        obtain ⟨k, hk, rfl, rfl, hnw, hro⟩ := hrel
        have NW := Lib.hid hnw; clear hnw
        have RO := Lib.hid hro; clear hro
        by_cases hlt : k < n
        · obtain ⟨b, o, rfl, hcl, _⟩ := (HA.out.new NW.out).at hlt
          have KC := Lib.hid (show k < c.length by have := HN.out; omega)
          have q0 := carK_bd HC.out (zeros_ok HC.out) x0 k (by have := KC.out; omega)
          have q1 := HC.out.2 k KC.out
          have q3 := carK_bd HC.out (zeros_ok HC.out) x0 (k + 1) (by have := KC.out; omega)
          have e3 : carK c (zeros c.length) x k / (c[k]?.getD 0) = carK c (zeros c.length) x (k + 1) := by
            conv => rhs; unfold carK
            rw [zeros_get, Int.add_zero]
          rw [← e3] at q3
          obtain ⟨d, hd⟩ : ∃ d, d = c[k]?.getD 0 := ⟨_, rfl⟩
          obtain ⟨y, hy⟩ : ∃ y, y = carK c (zeros c.length) x k := ⟨_, rfl⟩
          rw [← hd] at hcl q1 e3 q3
          rw [← hy] at q0 e3 q3 ⊢
          have E := Lib.hid e3; clear e3 hd hy
          have w1 : IntKind.i64.wrap (y / d) = y / d := IntWalk.i64_in _ (by omega)
          have zb := NW.out.size
          have d0 : ¬ d = 0 := by omega
          go_wp2_with (at_builtin; (refine wpList_append_lies _ (by rfl) (.tmp 26) (.tmp 28) 24 (by rfl) w.heap.size 3 i0 (.int .i64 0) 1 8 Try.underlying24 hi hz0 hz1 hz2 rfl (by decide) _ k _ (by rfl) (ownsRow_new RO.out (by repeat (first | with_reducible exact New.refl _ | with_reducible assumption | refine New.drewN ?_ _ | refine New.drew ?_ | refine New.alloc ?_ _ | refine New.setCell ?_ (by first | omega | (simp; omega) | (simp; done)) _ | (refine New.trans ?_ (by assumption))))) _ _ _ [.int .i64 (y / d)] (by rfl) (by rfl) (World.news_of_block (cs := #[.int .i64 (y / d)]) (t := 3) (fr := (0, 0)) (heap_alloc_at (by simp))) (by simp [Value.oneCell']) (by omega) (by unfold maxLen; omega) (by omega) (by first | omega | (simp; omega) | (simp; done)) _ rfl ?_; intro g cap w3 ho hg hb' hlt'; have N3 := Lib.hid (New.grown (NW.out.trans (by repeat (first | with_reducible exact New.refl _ | with_reducible assumption | refine New.drewN ?_ _ | refine New.drew ?_ | refine New.alloc ?_ _ | refine New.setCell ?_ (by first | omega | (simp; omega) | (simp; done)) _ | (refine New.trans ?_ (by assumption))))) (ownsRow_new RO.out (by repeat (first | with_reducible exact New.refl _ | with_reducible assumption | refine New.drewN ?_ _ | refine New.drew ?_ | refine New.alloc ?_ _ | refine New.setCell ?_ (by first | omega | (simp; omega) | (simp; done)) _ | (refine New.trans ?_ (by assumption))))) (Nat.le_refl _) hg); have RO3 := Lib.hid ho; clear ho hg hb' hlt'))
          go_roundw
          case rel =>
            refine ⟨k + 1, by omega, by go_num, by rw [E.out], N3.out, ?_⟩
            rw [tipTo_succ, List.map_append, ← E.out]
            exact RO3.out
          case measure => simp [intOf]; omega
        · obtain rfl : k = n := by omega
          go_wp2
          obtain ⟨oa, oc, e1, o1⟩ := Own.of_row RO.out
          subst e1
          go_ret2
          rw [HM.out, HH.out]
          exact ⟨_, _, _, rfl, (show tipTo c (zeros c.length) x k = tipTo c (zeros c.length) x c.length by rw [HN.out]) ▸ o1, NW.out⟩
    · have h2f : dropB x = false := by simpa using h2
      have hf : hafB c x = false := by unfold hafB; rw [h2f]; simp
      rw [tafM_no hf, hf]
      go_enter Try.func9, Try.ntmps9
      go_wp2_with fail
      refine (tbCaps_any _ _ _ _ c HA.out).mono ?_
      rintro e w9 ⟨rfl, rfl⟩
      go_wp2_with fail
      refine (tbDrops_any _ _).mono ?_
      rintro e w9 ⟨rfl, rfl⟩
      go_wp2
      go_ret2
      exact ⟨_, _, _, rfl, Own.nil _ _ _, New.refl _⟩
  · have h1f : capsB c = false := by simpa using h1
    have hf : hafB c x = false := by unfold hafB; rw [h1f]; rfl
    rw [tafM_no hf, hf]
    go_enter Try.func9, Try.ntmps9
    go_wp2_with fail
    refine (tbCaps_any _ _ _ _ c HA.out).mono ?_
    rintro e w9 ⟨rfl, rfl⟩
    go_wp2
    go_ret2
    exact ⟨_, _, _, rfl, Own.nil _ _ _, New.refl _⟩

theorem tbHolds_any (w : World) (aa ab : Option Addr) (n m ca cb : Nat) (c h : List Int) (ha : Ints w aa n ca c) (hb : Ints w ab m cb h) :
    Calls Try.prog 40 #[.slice aa n ca, .slice ab m cb] w fun e w' => e = .returned (.bool (heldB c h)) ∧ w = w' := by
  have hm1 := ha.2.2.1
  have hm2 := hb.2.2.1
  have HA := Lib.hid ha; clear ha
  have HB := Lib.hid hb; clear hb
  by_cases h1 : capsB c = true
  · by_cases hmn : m = n
    · subst hmn
      have HC := Lib.hid (capsB_iff.1 h1)
      have L1 := Lib.hid HA.out.1
      have L2 := Lib.hid HB.out.1
      go_enter Try.func40, Try.ntmps40
      go_wp2_with fail
      refine (tbCaps_any _ _ _ _ c HA.out).mono ?_
      rintro e w9 ⟨rfl, rfl⟩
      go_wp2
      go_loop [19] (fun i => ∃ k : Nat, k ≤ m ∧ i = .int .i64 k ∧ ∀ j, j < k → 0 ≤ h[j]?.getD 0 ∧ h[j]?.getD 0 < c[j]?.getD 0) (fun i => m - (intOf i).toNat)
      case atStart => exact ⟨0, Nat.zero_le _, rfl, fun j hj => absurd hj (by omega)⟩
      case round =>
        obtain ⟨k, hk, rfl, hpre⟩ := hrel
        have HP := Lib.hid hpre; clear hpre
        by_cases hlt : k < m
        · obtain ⟨b1, o1, rfl, hc1, _⟩ := HA.out.at hlt
          obtain ⟨b2, o2, rfl, hc2, _⟩ := HB.out.at hlt
          have q1 := HC.out.2 k (by have := L1.out; omega)
          obtain ⟨d, hd⟩ : ∃ d, d = c[k]?.getD 0 := ⟨_, rfl⟩
          obtain ⟨u, hu⟩ : ∃ u, u = h[k]?.getD 0 := ⟨_, rfl⟩
          rw [← hd] at hc1 q1
          rw [← hu] at hc2
          have HD := Lib.hid (And.intro hd hu); clear hd hu
          have w1 : IntKind.i64.wrap (d - 1) = d - 1 := IntWalk.i64_in _ (by omega)
          go_wp2_with (go_at_call 35; refine (l1In_any _ _ _ _).mono ?_; rintro e w' ⟨rfl, rfl⟩)
          · have hb : inB 0 (d - 1) u = false := by rw [← Bool.not_eq_true']; assumption
            go_ret
            refine ⟨ret_bool ?_, rfl⟩
            symm
            rw [heldB_false]
            intro hh
            rw [inB_false] at hb
            have := hh.2.2 k (by have := L1.out; omega)
            rw [← HD.out.1, ← HD.out.2] at this
            omega
          · have hb : inB 0 (d - 1) u = true := by rw [← Bool.not_eq_false']; assumption
            go_round
            case rel =>
              refine ⟨k + 1, by omega, by go_num, fun j hj => ?_⟩
              by_cases e : j = k
              · subst e
                rw [← HD.out.1, ← HD.out.2]
                rw [inB_iff] at hb
                omega
              · exact HP.out j (by omega)
            case measure => simp [intOf]; omega
        · go_wp2
          go_ret
          refine ⟨ret_bool ?_, rfl⟩
          symm
          rw [heldB_iff]
          exact ⟨HC.out, by rw [← L1.out, ← L2.out], fun j hj => HP.out j (by have := L1.out; omega)⟩
    · have hf : heldB c h = false := heldB_false.2 fun hh => hmn (by have := hh.2.1; have := HA.out.1; have := HB.out.1; omega)
      have HF := Lib.hid hf; clear hf
      have hmn' : ((m : Int) == (n : Int)) = false := by simpa using (fun h : (m : Int) = n => hmn (by omega))
      go_enter Try.func40, Try.ntmps40
      go_wp2_with fail
      refine (tbCaps_any _ _ _ _ c HA.out).mono ?_
      rintro e w9 ⟨rfl, rfl⟩
      go_wp2
      go_ret
      exact ⟨ret_bool HF.out.symm, rfl⟩
  · have h1f : capsB c = false := by simpa using h1
    have hf : heldB c h = false := by unfold heldB; rw [h1f]; rfl
    have HF := Lib.hid hf; clear hf
    go_enter Try.func40, Try.ntmps40
    go_wp2_with fail
    refine (tbCaps_any _ _ _ _ c HA.out).mono ?_
    rintro e w9 ⟨rfl, rfl⟩
    go_wp2
    go_ret
    exact ⟨ret_bool HF.out.symm, rfl⟩

set_option maxRecDepth 100000 in
theorem tbNumber_any (w : World) (aa ab : Option Addr) (n m ca cb : Nat) (c h : List Int) (ha : Ints w aa n ca c) (hb : Ints w ab m cb h) (hc : CapsOk c) (hh : HeldOk c h) :
    Calls Try.prog 41 #[.slice aa n ca, .slice ab m cb] w fun e w' => e = .returned (.int .i64 (numM c h)) ∧ New w w' := by
  have L1 := Lib.hid ha.1
  have hn : n ≤ 6 := by have := ha.1; have := hc.1.2; omega
  have hmn : m = n := by have := ha.1; have := hb.1; have := hh.1; omega
  subst hmn
  have HA := Lib.hid ha; clear ha
  have HB := Lib.hid hb; clear hb
  have HC := Lib.hid hc; clear hc
  have HH := Lib.hid hh; clear hh
  go_enter Try.func41, Try.ntmps41
  go_wp2
  go_loopw [5, 6] (fun y i wr => ∃ k : Nat, k ≤ m ∧ i = .int .i64 ((m : Int) - 1 - k) ∧ y = .int .i64 (numD c h c.length k) ∧ New w wr) (fun _ i _ => (intOf i + 1).toNat)
  case atStart => exact ⟨0, Nat.zero_le _, by simp, rfl, (by repeat (first | with_reducible exact New.refl _ | with_reducible assumption | refine New.drewN ?_ _ | refine New.drew ?_ | refine New.alloc ?_ _ | refine New.setCell ?_ (by first | omega | (simp; omega) | (simp; done)) _ | (refine New.trans ?_ (by assumption))))⟩
  case round =>
    obtain ⟨k, hk, rfl, rfl, hnw⟩ := hrel
    have NW := Lib.hid hnw; clear hnw
    by_cases hlt : k < m
    · obtain ⟨j, hj⟩ : ∃ j, j = m - 1 - k := ⟨_, rfl⟩
      have ej : (m : Int) - 1 - k = (j : Int) := by omega
      have jlt : j < m := by omega
      rw [ej]
      obtain ⟨b1, o1, rfl, hc1, _⟩ := (HA.out.new NW.out).at jlt
      obtain ⟨b2, o2, rfl, hc2, _⟩ := (HB.out.new NW.out).at jlt
      have q1 := HC.out.2 j (by have := L1.out; omega)
      have q2 := HH.out.2 j (by have := L1.out; omega)
      have q3 := numD_bd HC.out HH.out (k + 1) (by have := L1.out; omega)
      have q4 := pow60_le (show k + 1 ≤ 6 by omega)
      have q5 := numD_bd HC.out HH.out k (by have := L1.out; omega)
      have ee : numD c h c.length (k + 1) = numD c h c.length k * c[j]?.getD 0 + h[j]?.getD 0 := by
        show numD c h c.length k * c[c.length - 1 - k]?.getD 0 + h[c.length - 1 - k]?.getD 0 = _
        rw [hj, ← L1.out]
      rw [ee] at q3
      have q6 : 0 ≤ numD c h c.length k * c[j]?.getD 0 := Int.mul_nonneg q5.1 (by omega)
      obtain ⟨d, hd⟩ : ∃ d, d = c[j]?.getD 0 := ⟨_, rfl⟩
      obtain ⟨u, hu⟩ : ∃ u, u = h[j]?.getD 0 := ⟨_, rfl⟩
      obtain ⟨y, hy⟩ : ∃ y, y = numD c h c.length k := ⟨_, rfl⟩
      rw [← hd] at hc1 q1 q2 q3 ee q6
      rw [← hu] at hc2 q2 q3 ee
      rw [← hy] at q3 ee q6 q5 ⊢
      have E := Lib.hid ee; clear ee hd hu hy
      have w1 : IntKind.i64.wrap (y * d) = y * d := IntWalk.i64_in _ (by omega)
      have w2 : IntKind.i64.wrap (y * d + u) = y * d + u := IntWalk.i64_in _ (by omega)
      have EJ := Lib.hid (And.intro hj ej); clear hj ej
      go_wp2
      go_quiet (fail)
      go_wp2
      go_roundw
      case rel => exact ⟨k + 1, by omega, by have := EJ.out; go_num, by rw [E.out], NW.out.drewN _⟩
      case measure => simp [intOf] <;> omega
    · obtain rfl : k = m := by omega
      go_wp2
      go_ret
      exact ⟨ret_int (by unfold numM; rw [← L1.out]), NW.out⟩

theorem sDropsFor_any (w : World) (aa ab : Option Addr) (n m ca cb : Nat) (c h : List Int) (ha : Ints w aa n ca c) (hb : Ints w ab m cb h) :
    Calls Try.prog 20 #[.slice aa n ca, .slice ab m cb] w fun e w' => e = .returned (.tuple #[.int .i64 (dropsM c h), .bool (heldB c h)]) ∧ New w w' := by
  have HA := Lib.hid ha; clear ha
  have HB := Lib.hid hb; clear hb
  by_cases hh : heldB c h = true
  · have HO := Lib.hid (heldB_iff.1 hh)
    go_enter Try.func20, Try.ntmps20
    go_wp2_with fail
    refine (tbHolds_any _ _ _ _ _ _ _ c h HA.out HB.out).mono ?_
    rintro e w9 ⟨rfl, rfl⟩
    go_wp2_with fail
    refine (tbNumber_any _ _ _ _ _ _ _ c h HA.out HB.out HO.out.1 HO.out.2).mono ?_
    rintro e w9 ⟨rfl, n1⟩
    go_wp2
    go_ret2
    exact ⟨by unfold dropsM; rw [if_pos hh, hh]; rfl, n1⟩
  · have hf : heldB c h = false := by simpa using hh
    go_enter Try.func20, Try.ntmps20
    go_wp2_with fail
    refine (tbHolds_any _ _ _ _ _ _ _ c h HA.out HB.out).mono ?_
    rintro e w9 ⟨rfl, rfl⟩
    go_wp2
    go_ret2
    exact ⟨by unfold dropsM; rw [if_neg hh, hf]; rfl, New.refl _⟩

theorem tbRound_any (w : World) (aa : Option Addr) (n ca : Nat) (c : List Int) (ha : Ints w aa n ca c) (hc : CapsOk c) :
    Calls Try.prog 36 #[.slice aa n ca] w fun e w' => e = .returned (.int .i64 (wholeM c)) ∧ w = w' := by
  have L1 := Lib.hid ha.1
  have hn : n ≤ 6 := by have := ha.1; have := hc.1.2; omega
  have HA := Lib.hid ha; clear ha
  have HC := Lib.hid hc; clear hc
  go_enter Try.func36, Try.ntmps36
  go_wp2
  go_loop [3, 8] (fun y i => ∃ k : Nat, k ≤ n ∧ i = .int .i64 k ∧ y = .int .i64 (prodK c k)) (fun _ i => n - (intOf i).toNat)
  case atStart => exact ⟨0, Nat.zero_le _, rfl, rfl⟩
  case round =>
    obtain ⟨k, hk, rfl, rfl⟩ := hrel
    by_cases hlt : k < n
    · obtain ⟨b1, o1, rfl, hc1, _⟩ := HA.out.at hlt
      have q1 := HC.out.2 k (by have := L1.out; omega)
      have q2 := prodK_bd HC.out (k + 1) (by have := L1.out; omega)
      have q4 := pow60_le (show k + 1 ≤ 6 by omega)
      have ee : prodK c (k + 1) = prodK c k * c[k]?.getD 0 := rfl
      rw [ee] at q2
      obtain ⟨d, hd⟩ : ∃ d, d = c[k]?.getD 0 := ⟨_, rfl⟩
      obtain ⟨y, hy⟩ : ∃ y, y = prodK c k := ⟨_, rfl⟩
      rw [← hd] at hc1 q1 q2 ee
      rw [← hy] at q2 ee ⊢
      have E := Lib.hid ee; clear ee hd hy
      have w1 : IntKind.i64.wrap (y * d) = y * d := IntWalk.i64_in _ (by omega)
      go_wp2
      go_round
      case rel => exact ⟨k + 1, by omega, by go_num, by rw [E.out]⟩
      case measure => simp [intOf]; omega
    · obtain rfl : k = n := by omega
      go_wp2
      go_ret
      exact ⟨ret_int (by unfold wholeM; rw [← L1.out]), rfl⟩

theorem sRoundOf_any (w : World) (aa : Option Addr) (n ca : Nat) (c : List Int) (ha : Ints w aa n ca c) :
    Calls Try.prog 13 #[.slice aa n ca] w fun e w' => e = .returned (.tuple #[.int .i64 (roundM c), .bool (capsB c)]) ∧ New w w' := by
  have HA := Lib.hid ha; clear ha
  by_cases hh : capsB c = true
  · go_enter Try.func13, Try.ntmps13
    go_wp2_with fail
    refine (tbCaps_any _ _ _ _ c HA.out).mono ?_
    rintro e w9 ⟨rfl, rfl⟩
    go_wp2_with fail
    refine (tbRound_any _ _ _ _ c HA.out (capsB_iff.1 hh)).mono ?_
    rintro e w9 ⟨rfl, rfl⟩
    go_wp2
    go_ret2
    exact ⟨by unfold roundM; rw [if_pos hh, hh]; rfl, New.refl _⟩
  · have hf : capsB c = false := by simpa using hh
    go_enter Try.func13, Try.ntmps13
    go_wp2_with fail
    refine (tbCaps_any _ _ _ _ c HA.out).mono ?_
    rintro e w9 ⟨rfl, rfl⟩
    go_wp2
    go_ret2
    exact ⟨by unfold roundM; rw [if_neg hh, hf]; rfl, New.refl _⟩

theorem addM_no {c h : List Int} {x : Int} (e : addB c h x = false) : addM c h x = [] := by unfold addM; rw [if_neg (by rw [e]; decide)]
theorem backM_no {c h : List Int} {x : Int} (e : addB c h x = false) : backM c h x = [] := by unfold backM; rw [if_neg (by rw [e]; decide)]

theorem sAddDrops_any (w : World) (aa ab : Option Addr) (n m ca cb : Nat) (c h : List Int) (x : Int) (ha : Ints w aa n ca c) (hb : Ints w ab m cb h) :
    Calls Try.prog 22 #[.slice aa n ca, .slice ab m cb, .int .i64 x] w fun e w' => ∃ oa on oc, e = .returned (.tuple #[.slice oa on oc, .bool (addB c h x)]) ∧ Own w' w.heap.size w'.heap.size oa on oc (addM c h x) ∧ New w w' := by
  have HA := Lib.hid ha; clear ha
  have HB := Lib.hid hb; clear hb
  by_cases h1 : heldB c h = true
  · by_cases h2 : dropB x = true
    · have hh : addB c h x = true := by unfold addB; rw [h1, h2]; rfl
      obtain ⟨⟨hc, hd⟩, x0, x1⟩ := addB_iff.1 hh
      have HM := Lib.hid (show addM c h x = rstTo c (zeros c.length) (numM c h + x) c.length by unfold addM; rw [if_pos hh]; exact (rst_num hc hd).symm)
      have HH := Lib.hid hh; clear hh
      have nb := numM_bd hc hd
      have HC := Lib.hid (And.intro hc hd); clear hc hd
      go_enter Try.func22, Try.ntmps22
      go_wp2_with fail
      refine (tbHolds_any _ _ _ _ _ _ _ c h HA.out HB.out).mono ?_
      rintro e w9 ⟨rfl, rfl⟩
      go_wp2_with fail
      refine (tbDrops_any _ _).mono ?_
      rintro e w9 ⟨rfl, rfl⟩
      go_wp2_with fail
      refine (tbNumber_any _ _ _ _ _ _ _ c h HA.out HB.out HC.out.1 HC.out.2).mono ?_
      rintro e w1 ⟨rfl, n1⟩
      have N1 := Lib.hid n1; clear n1
      have w2 : IntKind.i64.wrap (numM c h + x) = numM c h + x := IntWalk.i64_in _ (by omega)
      go_wp2_with fail
      refine (tbHeld_any _ _ _ _ c _ (HA.out.new N1.out) HC.out.1 (by omega) (by omega)).mono ?_
      rintro e w2 ⟨oa, on, oc, rfl, o1, n1⟩
      have zz := N1.out.size
      go_wp2
      go_ret2
      rw [HM.out, HH.out]
      exact ⟨_, _, _, rfl, o1.mono zz (Nat.le_refl _), N1.out.trans n1⟩
    · have h2f : dropB x = false := by simpa using h2
      have hf : addB c h x = false := by unfold addB; rw [h2f]; simp
      rw [addM_no hf, hf]
      go_enter Try.func22, Try.ntmps22
      go_wp2_with fail
      refine (tbHolds_any _ _ _ _ _ _ _ c h HA.out HB.out).mono ?_
      rintro e w9 ⟨rfl, rfl⟩
      go_wp2_with fail
      refine (tbDrops_any _ _).mono ?_
      rintro e w9 ⟨rfl, rfl⟩
      go_wp2
      go_ret2
      exact ⟨_, _, _, rfl, Own.nil _ _ _, New.refl _⟩
  · have h1f : heldB c h = false := by simpa using h1
    have hf : addB c h x = false := by unfold addB; rw [h1f]; rfl
    rw [addM_no hf, hf]
    go_enter Try.func22, Try.ntmps22
    go_wp2_with fail
    refine (tbHolds_any _ _ _ _ _ _ _ c h HA.out HB.out).mono ?_
    rintro e w9 ⟨rfl, rfl⟩
    go_wp2
    go_ret2
    exact ⟨_, _, _, rfl, Own.nil _ _ _, New.refl _⟩

theorem sBackDrops_any (w : World) (aa ab : Option Addr) (n m ca cb : Nat) (c h : List Int) (x : Int) (ha : Ints w aa n ca c) (hb : Ints w ab m cb h) :
    Calls Try.prog 24 #[.slice aa n ca, .slice ab m cb, .int .i64 x] w fun e w' => ∃ oa on oc, e = .returned (.tuple #[.slice oa on oc, .bool (addB c h x)]) ∧ Own w' w.heap.size w'.heap.size oa on oc (backM c h x) ∧ New w w' := by
  have HA := Lib.hid ha; clear ha
  have HB := Lib.hid hb; clear hb
  by_cases h1 : heldB c h = true
  · by_cases h2 : dropB x = true
    · have hh : addB c h x = true := by unfold addB; rw [h1, h2]; rfl
      obtain ⟨⟨hc, hd⟩, x0, x1⟩ := addB_iff.1 hh
      have HM := Lib.hid (show backM c h x = rstTo c (zeros c.length) (numM c h + (wholeM c - x % wholeM c)) c.length by unfold backM; rw [if_pos hh]; exact (rst_num hc hd).symm)
      have HH := Lib.hid hh; clear hh
      have nb := numM_bd hc hd
      have wb := wholeM_bd hc
      have db := divBd1 x0 wb.1
      have HC := Lib.hid (And.intro hc hd); clear hc hd
      obtain ⟨N, hN⟩ : ∃ N, N = numM c h := ⟨_, rfl⟩
      obtain ⟨R, hR⟩ : ∃ R, R = wholeM c := ⟨_, rfl⟩
      have EE := Lib.hid (And.intro hN hR)
      rw [← hN] at nb
      rw [← hR] at wb db
      have HM2 := Lib.hid (show backM c h x = rstTo c (zeros c.length) (N + R - x % R) c.length by rw [HM.out, hN, hR]; congr 1; omega)
      clear hN hR
      go_enter Try.func24, Try.ntmps24
      go_wp2_with fail
      refine (tbHolds_any _ _ _ _ _ _ _ c h HA.out HB.out).mono ?_
      rintro e w9 ⟨rfl, rfl⟩
      go_wp2_with fail
      refine (tbDrops_any _ _).mono ?_
      rintro e w9 ⟨rfl, rfl⟩
      go_wp2_with fail
      refine (tbRound_any _ _ _ _ c HA.out HC.out.1).mono ?_
      rintro e w9 ⟨rfl, rfl⟩
      rw [← EE.out.2]
      have w2 : IntKind.i64.wrap (N + R) = N + R := IntWalk.i64_in _ (by omega)
      have w3 : IntKind.i64.wrap (N + R - x.tmod R) = N + R - x % R := by rw [Int.tmod_eq_emod_of_nonneg x0]; exact IntWalk.i64_in _ (by omega)
      have r0 : ¬ R = 0 := by omega
      go_wp2_with fail
      go_region_with (first
        | (go_at_call 41; refine (tbNumber_any _ _ _ _ _ _ _ c h (HA.out.new (by repeat (first | with_reducible exact New.refl _ | with_reducible assumption | refine New.drewN ?_ _ | refine New.drew ?_ | refine New.alloc ?_ _ | refine New.setCell ?_ (by first | omega | (simp; omega) | (simp; done)) _ | (refine New.trans ?_ (by assumption))))) (HB.out.new (by repeat (first | with_reducible exact New.refl _ | with_reducible assumption | refine New.drewN ?_ _ | refine New.drew ?_ | refine New.alloc ?_ _ | refine New.setCell ?_ (by first | omega | (simp; omega) | (simp; done)) _ | (refine New.trans ?_ (by assumption))))) HC.out.1 HC.out.2).mono ?_; rintro e w1 ⟨rfl, n1⟩; rw [← EE.out.1]; (try replace n1 := New.undrew n1))
        | (go_at_call 32; refine (tbHeld_any _ _ _ _ c _ (HA.out.new (by repeat (first | with_reducible exact New.refl _ | with_reducible assumption | refine New.drewN ?_ _ | refine New.drew ?_ | refine New.alloc ?_ _ | refine New.setCell ?_ (by first | omega | (simp; omega) | (simp; done)) _ | (refine New.trans ?_ (by assumption))))) HC.out.1 (by omega) (by omega)).mono ?_; rintro e w4 ⟨oa, on, oc, rfl, o1, n2⟩; (try replace n2 := New.undrew n2)))
      all_goals
        have zz := n1.size
        go_wp2
        go_ret2
        rw [HM2.out, HH.out]
        exact ⟨_, _, _, rfl, o1.mono (by simpa using zz) (Nat.le_refl _), (by repeat (first | with_reducible exact New.refl _ | with_reducible assumption | refine New.drewN ?_ _ | refine New.drew ?_ | refine New.alloc ?_ _ | refine New.setCell ?_ (by first | omega | (simp; omega) | (simp; done)) _ | (refine New.trans ?_ (by assumption))))⟩
    · have h2f : dropB x = false := by simpa using h2
      have hf : addB c h x = false := by unfold addB; rw [h2f]; simp
      rw [backM_no hf, hf]
      go_enter Try.func24, Try.ntmps24
      go_wp2_with fail
      refine (tbHolds_any _ _ _ _ _ _ _ c h HA.out HB.out).mono ?_
      rintro e w9 ⟨rfl, rfl⟩
      go_wp2_with fail
      refine (tbDrops_any _ _).mono ?_
      rintro e w9 ⟨rfl, rfl⟩
      go_wp2
      go_ret2
      exact ⟨_, _, _, rfl, Own.nil _ _ _, New.refl _⟩
  · have h1f : heldB c h = false := by simpa using h1
    have hf : addB c h x = false := by unfold addB; rw [h1f]; rfl
    rw [backM_no hf, hf]
    go_enter Try.func24, Try.ntmps24
    go_wp2_with fail
    refine (tbHolds_any _ _ _ _ _ _ _ c h HA.out HB.out).mono ?_
    rintro e w9 ⟨rfl, rfl⟩
    go_wp2
    go_ret2
    exact ⟨_, _, _, rfl, Own.nil _ _ _, New.refl _⟩

set_option maxRecDepth 100000 in
theorem sTipsAtDrop_any (w : World) (aa : Option Addr) (n ca : Nat) (c : List Int) (x : Int) (ha : Ints w aa n ca c) :
    Calls Try.prog 11 #[.slice aa n ca, .int .i64 x] w fun e w' => e = .returned (.tuple #[.int .i64 (tadI c x), .bool (tadB c x)]) ∧ New w w' := by
  have HA := Lib.hid ha; clear ha
  by_cases h1 : capsB c = true
  · by_cases h2 : inB 1 1000000 x = true
    · have hh : tadB c x = true := by unfold tadB; rw [h1, h2]; rfl
      obtain ⟨hc, x0, x1⟩ := tadB_iff.1 hh
      have HM := Lib.hid (show tadM c x = lead (fun j => rstK c (zeros c.length) x j == 0) c.length by unfold tadM; rw [if_pos hh])
      have HH := Lib.hid hh; clear hh
      have HN := Lib.hid HA.out.1
      have hn : n ≤ 6 := by have := HN.out; have := hc.1.2; omega
      have HC := Lib.hid hc; clear hc
      go_enter Try.func11, Try.ntmps11
      go_wp2_with fail
      refine (tbCaps_any _ _ _ _ c HA.out).mono ?_
      rintro e w9 ⟨rfl, rfl⟩
      go_wp2_with fail
      refine (l1In_any _ _ _ _).mono ?_
      rintro e w9 ⟨rfl, rfl⟩
      go_wp2
      go_loop [1, 6, 19] (fun y q i => ∃ k : Nat, k ≤ n ∧ i = .int .i64 k ∧ q = .int .i64 k ∧ y = .int .i64 (carK c (zeros c.length) x k) ∧ ∀ j, j < k → rstK c (zeros c.length) x j = 0) (fun _ _ i => n - (intOf i).toNat)
      case atStart => exact ⟨0, Nat.zero_le _, rfl, rfl, rfl, fun j hj => absurd hj (by omega)⟩
      case round =>
        obtain ⟨k, hk, rfl, rfl, rfl, hpre⟩ := hrel
        have HP := Lib.hid hpre; clear hpre
        by_cases hlt : k < n
        · obtain ⟨b, o, rfl, hcl, _⟩ := HA.out.at hlt
          have KC := Lib.hid (show k < c.length by have := HN.out; omega)
          have q0 := carK_bd HC.out (zeros_ok HC.out) (show 0 ≤ x by omega) k (by have := KC.out; omega)
          have q1 := HC.out.2 k KC.out
          have q3 := carK_bd HC.out (zeros_ok HC.out) (show 0 ≤ x by omega) (k + 1) (by have := KC.out; omega)
          have e2 : carK c (zeros c.length) x k % (c[k]?.getD 0) = rstK c (zeros c.length) x k := by unfold rstK; rw [zeros_get, Int.add_zero]
          have e3 : carK c (zeros c.length) x k / (c[k]?.getD 0) = carK c (zeros c.length) x (k + 1) := by
            conv => rhs; unfold carK
            rw [zeros_get, Int.add_zero]
          rw [← e3] at q3
          obtain ⟨d, hd⟩ : ∃ d, d = c[k]?.getD 0 := ⟨_, rfl⟩
          obtain ⟨y, hy⟩ : ∃ y, y = carK c (zeros c.length) x k := ⟨_, rfl⟩
          rw [← hd] at hcl q1 e2 e3 q3
          rw [← hy] at q0 e2 e3 q3 ⊢
          have E := Lib.hid (And.intro e2 e3); clear e2 e3 hd hy
          have w1 : IntKind.i64.wrap (y / d) = y / d := IntWalk.i64_in _ (by omega)
          have d0 : ¬ d = 0 := by omega
          by_cases hz : y % d = 0
          · go_wp2
            go_round
            case rel =>
              refine ⟨k + 1, by omega, by go_num, by go_num, by rw [E.out.2], fun j hj => ?_⟩
              by_cases e : j = k
              · subst e; rw [← E.out.1]; exact hz
              · exact HP.out j (by omega)
            case measure => simp [intOf]; omega
          · go_wp2
            go_ret2
            refine ⟨?_, New.refl _⟩
            unfold tadI; rw [HM.out, HH.out, lead_eq (r := k) (by have := KC.out; omega) (fun j hj => by rw [HP.out j hj]; rfl) (fun _ => by rw [← E.out.1]; simpa using hz)]
            rfl
        · obtain rfl : k = n := by omega
          go_wp2
          go_ret2
          refine ⟨?_, New.refl _⟩
          unfold tadI; rw [HM.out, HH.out, lead_eq (r := k) (by have := HN.out; omega) (fun j hj => by rw [HP.out j hj]; rfl) (fun h => absurd h (by have := HN.out; omega))]
          rfl
    · have h2f : inB 1 1000000 x = false := by simpa using h2
      have hf : tadB c x = false := by unfold tadB; rw [h2f]; simp
      have HM := Lib.hid (show tadM c x = 0 by unfold tadM; rw [if_neg (by rw [hf]; decide)])
      go_enter Try.func11, Try.ntmps11
      go_wp2_with fail
      refine (tbCaps_any _ _ _ _ c HA.out).mono ?_
      rintro e w9 ⟨rfl, rfl⟩
      go_wp2_with fail
      refine (l1In_any _ _ _ _).mono ?_
      rintro e w9 ⟨rfl, rfl⟩
      go_wp2
      go_ret2
      exact ⟨by unfold tadI; rw [HM.out, hf]; rfl, New.refl _⟩
  · have h1f : capsB c = false := by simpa using h1
    have hf : tadB c x = false := by unfold tadB; rw [h1f]; rfl
    have HM := Lib.hid (show tadM c x = 0 by unfold tadM; rw [if_neg (by rw [hf]; decide)])
    go_enter Try.func11, Try.ntmps11
    go_wp2_with fail
    refine (tbCaps_any _ _ _ _ c HA.out).mono ?_
    rintro e w9 ⟨rfl, rfl⟩
    go_wp2
    go_ret2
    exact ⟨by unfold tadI; rw [HM.out, hf]; rfl, New.refl _⟩
end Go.Proofs.Ytbgbglalibjncaa
