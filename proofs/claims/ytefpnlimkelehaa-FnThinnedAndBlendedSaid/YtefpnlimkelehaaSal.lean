/- Ratios of chapter 7: lowest terms, sums, products, limits; the model's and the program's. -/
import Derived.Test.YtefpnlimkelehaaRatI
import Derived.Test.YtefpnlimkelehaaRowRatio
import Derived.Test.YtefpnlimkelehaaSpec1
import Derived.Deep.QuietTactic
import Derived.Deep.RegionHeld3
import Derived.Deep.DeepCutAuto
namespace Go.Proofs.Ytefpnlimkelehaa
open Go.RowKit Go.IntWalk

theorem pair_kept {W W' : World} {p q : Addr} {x y : Value} (n1 : New W W') (hc : W.cell? p = some x ∧ W.cell? q = some y ∧ W.frozen? p = false ∧ W.frozen? q = false) :
    W'.cell? p = some x ∧ W'.cell? q = some y ∧ W'.frozen? p = false ∧ W'.frozen? q = false :=
  ⟨n1.cell hc.1, n1.cell hc.2.1, n1.frz hc.1 hc.2.2.1, n1.frz hc.2.1 hc.2.2.2⟩


set_option maxRecDepth 100000 in
theorem times_any (w : World) (a b k : Int) (hb : 0 < b) (h1 : -4000000000000000000 ≤ a * k) (h2 : a * k ≤ 4000000000000000000) (h3 : b ≤ 4000000000000000000) :
    Calls Try.prog 35 #[ratV (a, b), .int .i64 k] w fun e w' => e = .returned (ratV (red (a * k) b)) ∧ New w w' := by
  go_enter Try.func35, Try.ntmps35
  go_wp2_with fail
  refine (ratioOf_any _ _ _ hb (by omega) (by omega) (by omega)).mono ?_
  rintro e w1 ⟨rfl, n1⟩
  obtain ⟨c0, c1, f0, f1⟩ := pair_kept (p := ⟨w.heap.size + 1, 0, none⟩) (q := ⟨w.heap.size + 1, 1, none⟩) (x := .int .i64 0) (y := .int .i64 0) n1 (by simp [go_sem])
  have N1 := Lib.hid (show New w w1 from New.trans (by repeat (first | with_reducible exact New.refl _ | with_reducible assumption | refine New.drewN ?_ _ | refine New.drew ?_ | refine New.alloc ?_ _ | refine New.setCell ?_ (by first | omega | (simp; omega) | (simp; done)) _ | (refine New.trans ?_ (by assumption)))) n1); clear n1
  obtain ⟨p, hp⟩ : ∃ p, p = red (a * k) b := ⟨_, rfl⟩
  rw [← hp]
  have HP := Lib.hid hp; clear hp
  go_wp2
  refine bodyPost_ret (v := ratV p) (by simp [results, Try.results35, go_sem, c0, c1]) rfl ⟨by rw [HP.out], ?_⟩
  have := N1.out
  (repeat (first | with_reducible exact New.refl _ | with_reducible assumption | refine New.drewN ?_ _ | refine New.drew ?_ | refine New.alloc ?_ _ | refine New.setCell ?_ (by first | omega | (simp; omega) | (simp; done)) _ | (refine New.trans ?_ (by assumption))))


set_option maxRecDepth 100000 in
theorem over_any (w : World) (a b k : Int) (hb : 0 < b * k) (h1 : -4000000000000000000 ≤ a) (h2 : a ≤ 4000000000000000000) (h3 : b * k ≤ 4000000000000000000) :
    Calls Try.prog 43 #[ratV (a, b), .int .i64 k] w fun e w' => e = .returned (ratV (red a (b * k))) ∧ New w w' := by
  go_enter Try.func43, Try.ntmps43
  go_wp2_with fail
  refine (ratioOf_any _ _ _ hb (by omega) (by omega) (by omega)).mono ?_
  rintro e w1 ⟨rfl, n1⟩
  obtain ⟨c0, c1, f0, f1⟩ := pair_kept (p := ⟨w.heap.size + 1, 0, none⟩) (q := ⟨w.heap.size + 1, 1, none⟩) (x := .int .i64 0) (y := .int .i64 0) n1 (by simp [go_sem])
  have N1 := Lib.hid (show New w w1 from New.trans (by repeat (first | with_reducible exact New.refl _ | with_reducible assumption | refine New.drewN ?_ _ | refine New.drew ?_ | refine New.alloc ?_ _ | refine New.setCell ?_ (by first | omega | (simp; omega) | (simp; done)) _ | (refine New.trans ?_ (by assumption)))) n1); clear n1
  obtain ⟨p, hp⟩ : ∃ p, p = red a (b * k) := ⟨_, rfl⟩
  rw [← hp]
  have HP := Lib.hid hp; clear hp
  go_wp2
  refine bodyPost_ret (v := ratV p) (by simp [results, Try.results43, go_sem, c0, c1]) rfl ⟨by rw [HP.out], ?_⟩
  have := N1.out
  (repeat (first | with_reducible exact New.refl _ | with_reducible assumption | refine New.drewN ?_ _ | refine New.drew ?_ | refine New.alloc ?_ _ | refine New.setCell ?_ (by first | omega | (simp; omega) | (simp; done)) _ | (refine New.trans ?_ (by assumption))))


theorem wholeRatio_any (w : World) (n : Int) :
    Calls Try.prog 18 #[.int .i64 n] w fun e w' => e = .returned (ratV (n, 1)) ∧ New w w' := by
  go_enter Try.func18, Try.ntmps18
  go_wp2
  refine bodyPost_ret (v := ratV (n, 1)) (by simp [results, Try.results18, go_sem]) rfl ⟨rfl, ?_⟩
  (repeat (first | with_reducible exact New.refl _ | with_reducible assumption | refine New.drewN ?_ _ | refine New.drew ?_ | refine New.alloc ?_ _ | refine New.setCell ?_ (by first | omega | (simp; omega) | (simp; done)) _ | (refine New.trans ?_ (by assumption))))


theorem isLess_any (w : World) (a b c d : Int) (h1 : -4000000000000000000 ≤ a * d) (h2 : a * d ≤ 4000000000000000000) (h3 : -4000000000000000000 ≤ c * b) (h4 : c * b ≤ 4000000000000000000) :
    Calls Try.prog 27 #[ratV (a, b), ratV (c, d)] w fun e w' => e = .returned (.bool (decide (a * d < c * b))) ∧ New w w' := by
  go_enter Try.func27, Try.ntmps27
  go_wp2
  go_ret
  exact ⟨rfl, (by repeat (first | with_reducible exact New.refl _ | with_reducible assumption | refine New.drewN ?_ _ | refine New.drew ?_ | refine New.alloc ?_ _ | refine New.setCell ?_ (by first | omega | (simp; omega) | (simp; done)) _ | (refine New.trans ?_ (by assumption))))⟩


theorem mul_bd {a b A B : Int} (h1 : 0 ≤ a) (h2 : a ≤ A) (h3 : 0 ≤ b) (h4 : b ≤ B) : 0 ≤ a * b ∧ a * b ≤ A * B :=
  ⟨Int.mul_nonneg h1 h3, Int.mul_le_mul h2 h4 h3 (by omega)⟩


theorem l1Most_any (w : World) (a b : Int) :
    Calls Try.prog 16 #[.int .i64 a, .int .i64 b] w fun e w' => e = .returned (.int .i64 (max a b)) ∧ w = w' := by
  by_cases h : b < a
  · go_enter Try.func16, Try.ntmps16
    go_wp2
    go_ret
    exact ⟨ret_int (by omega), rfl⟩
  · go_enter Try.func16, Try.ntmps16
    go_wp2
    go_ret
    exact ⟨ret_int (by omega), rfl⟩

theorem l1Abs_any (w : World) (a : Int) (h1 : -4611686018427387904 ≤ a) (h2 : a ≤ 4611686018427387904) :
    Calls Try.prog 38 #[.int .i64 a] w fun e w' => e = .returned (.int .i64 (a.natAbs : Nat)) ∧ w = w' := by
  go_enter Try.func38, Try.ntmps38
  go_wp2_with fail
  refine (l1Most_any _ _ _).mono ?_
  rintro e w1 ⟨rfl, rfl⟩
  go_wp2
  go_ret
  exact ⟨ret_int (by omega), rfl⟩


theorem bool_no {b : Bool} (h : ¬ b = true) : b = false := by simpa using h
/-- In lowest terms, with numbers within N and D. -/
def goodR (N D a b : Int) : Bool := inB 1 D b && inB (-N) N a && (Int.gcd a b == 1)
theorem goodR_iff {N D a b : Int} : goodR N D a b = true ↔ (1 ≤ b ∧ b ≤ D) ∧ (-N ≤ a ∧ a ≤ N) ∧ Int.gcd a b = 1 := by
  unfold goodR
  rw [Bool.and_eq_true, Bool.and_eq_true, inB_iff, inB_iff, beq_iff_eq]
  exact ⟨fun h => ⟨h.1.1, h.1.2, h.2⟩, fun h => ⟨⟨h.1, h.2.1⟩, h.2.2⟩⟩

theorem beq_cast (g : Nat) : (g == 1) = ((g : Int) == 1) := by
  by_cases e : g = 1
  · subst e; rfl
  · have e2 : ¬ (g : Int) = 1 := by omega
    rw [beq_eq_false_iff_ne.2 e, beq_eq_false_iff_ne.2 e2]

theorem l1InQ {n lo hi : Int} {v : Bool} (h : inB lo hi n = v) (w : World) :
    Calls Try.prog 21 #[.int .i64 n, .int .i64 lo, .int .i64 hi] w fun e w' => e = .returned (.bool v) ∧ ∃ q, w' = w.drewN q :=
  (l1In_any n lo hi w).mono fun e w' k => ⟨by rw [k.1, h], 0, k.2.symm⟩

theorem l1AbsQ {a : Int} {v : Nat} (w : World) (h1 : -4611686018427387904 ≤ a) (h2 : a ≤ 4611686018427387904) (h : a.natAbs = v) :
    Calls Try.prog 38 #[.int .i64 a] w fun e w' => e = .returned (.int .i64 (v : Nat)) ∧ ∃ q, w' = w.drewN q :=
  (l1Abs_any w a h1 h2).mono fun e w' k => ⟨by rw [k.1, h], 0, k.2.symm⟩

theorem veCommonQ (w : World) (a b g : Nat) (ha : a ≤ 4611686018427387904) (hb : b ≤ 4611686018427387904) (hg : Nat.gcd a b = g) :
    Calls Try.prog 37 #[.int .i64 a, .int .i64 b] w fun e w' => e = .returned (.int .i64 (g : Nat)) ∧ ∃ q, w' = w.drewN q := by
  subst hg
  go_enter Try.func37, Try.ntmps37
  go_wp2
  go_loopw [0, 1] (fun x y wr => ∃ a' b' q : Nat, x = .int .i64 a' ∧ y = .int .i64 b' ∧ a' ≤ 4611686018427387904 ∧ b' ≤ 4611686018427387904 ∧ Nat.gcd a' b' = Nat.gcd a b ∧ wr = w.drewN q) (fun _ y _ => (intOf y).toNat)
  case atStart => exact ⟨a, b, 0, rfl, rfl, ha, hb, rfl, rfl⟩
  case round =>
    obtain ⟨a', b', q, rfl, rfl, h1, h2, hg, rfl⟩ := hrel
    have HG := Lib.hid hg; clear hg
    by_cases h0 : 0 < b'
    · have h3 : (0 : Int) < b' := by omega
      go_wp2
      go_region
      all_goals
        go_wp2
        go_roundw
        case rel => exact ⟨b', a' % b', q + 1, rfl, by go_num, h2, by have := Nat.mod_lt a' h0; omega, by rw [gcd_step]; exact HG.out, rfl⟩
        case measure => have hm := Nat.mod_lt a' h0; simp [intOf]; omega
    · obtain rfl : b' = 0 := by omega
      go_wp2
      go_ret
      exact ⟨ret_int (by rw [← HG.out]; simp), q, rfl⟩


theorem goodR_red {N D n d : Int} (hd : 0 < d) : goodR N D (red n d).1 (red n d).2 = (inB 1 D (red n d).2 && inB (-N) N (red n d).1) := by
  unfold goodR
  rw [red_cop hd]
  simp

/-- A ratio of chapter 7. -/
def sgR (a b : Int) : Bool := goodR 1000000000 1000000000 a b
theorem sgR_iff {a b : Int} : sgR a b = true ↔ (1 ≤ b ∧ b ≤ 1000000000) ∧ (-1000000000 ≤ a ∧ a ≤ 1000000000) ∧ Int.gcd a b = 1 := goodR_iff

set_option maxRecDepth 100000 in
set_option maxHeartbeats 1000000 in
theorem saGood_any (w : World) (a b : Int) :
    Calls Try.prog 28 #[ratV (a, b)] w fun e w' => e = .returned (.bool (sgR a b)) ∧ New w w' := by
  by_cases h2 : inB (-1000000000) 1000000000 a = true
  · by_cases h1 : inB 1 1000000000 b = true
    · have i1 := inB_iff.1 h1
      have i2 := inB_iff.1 h2
      obtain ⟨i1a, i1b⟩ := i1
      obtain ⟨i2a, i2b⟩ := i2
      obtain ⟨bn, rfl⟩ : ∃ m : Nat, b = (m : Int) := ⟨b.toNat, by omega⟩
      obtain ⟨an, han⟩ : ∃ m : Nat, a.natAbs = m := ⟨_, rfl⟩
      obtain ⟨g, hg⟩ : ∃ g : Nat, Nat.gcd an bn = g := ⟨_, rfl⟩
      have HG := Lib.hid (show sgR a (bn : Int) = ((g : Int) == 1) by
        unfold sgR goodR
        rw [h1, h2]
        have : Int.gcd a (bn : Int) = g := by rw [← hg, ← han]; rfl
        rw [this, ← beq_cast]; rfl)
      have H1 := Lib.hid h1
      have H2 := Lib.hid h2
      have H3 := Lib.hid han
      have H4 := Lib.hid hg
      have anb : an ≤ 4611686018427387904 := by omega
      have bnb : bn ≤ 4611686018427387904 := by omega
      have b3 : -4611686018427387904 ≤ a := by omega
      have b4 : a ≤ 4611686018427387904 := by omega
      clear h1 h2 han hg i1a i1b i2a i2b
      go_enter Try.func28, Try.ntmps28
      go_wp2
      go_quiet (first | (go_at_call_of 21 (Value.int IntKind.i64 a); exact Calls.quiet_of (l1InQ H2.out _)) | (go_at_call_of 21 (Value.int IntKind.i64 (bn : Int)); exact Calls.quiet_of (l1InQ H1.out _)) | (go_at_call 38; exact Calls.quiet_of (l1AbsQ _ b3 b4 H3.out)) | (go_at_call 37; exact Calls.quiet_of (veCommonQ _ an bn g anb bnb H4.out)))
      go_wp2
      go_ret
      exact ⟨ret_bool (by first | exact HG.out.symm | (rw [HG.out]; simp)), (by repeat (first | with_reducible exact New.refl _ | with_reducible assumption | refine New.drewN ?_ _ | refine New.drew ?_ | refine New.alloc ?_ _ | refine New.setCell ?_ (by first | omega | (simp; omega) | (simp; done)) _ | (refine New.trans ?_ (by assumption))))⟩
    · have h1f := bool_no h1
      have HG := Lib.hid (show sgR a b = false by unfold sgR goodR; rw [h1f]; simp)
      have H1 := Lib.hid h1f
      have H2 := Lib.hid h2
      clear h1 h2 h1f
      go_enter Try.func28, Try.ntmps28
      go_wp2
      go_quiet (first | (go_at_call_of 21 (Value.int IntKind.i64 a); exact Calls.quiet_of (l1InQ H2.out _)) | (go_at_call_of 21 (Value.int IntKind.i64 b); exact Calls.quiet_of (l1InQ H1.out _)))
      go_wp2
      go_ret
      exact ⟨ret_bool HG.out.symm, (by repeat (first | with_reducible exact New.refl _ | with_reducible assumption | refine New.drewN ?_ _ | refine New.drew ?_ | refine New.alloc ?_ _ | refine New.setCell ?_ (by first | omega | (simp; omega) | (simp; done)) _ | (refine New.trans ?_ (by assumption))))⟩
  · have h2f := bool_no h2
    have HG := Lib.hid (show sgR a b = false by unfold sgR goodR; rw [h2f]; simp)
    have H2 := Lib.hid h2f
    clear h2 h2f
    go_enter Try.func28, Try.ntmps28
    go_wp2
    go_quiet (first | (go_at_call 21; exact Calls.quiet_of (l1InQ H2.out _)))
    go_wp2
    go_ret
    exact ⟨ret_bool HG.out.symm, (by repeat (first | with_reducible exact New.refl _ | with_reducible assumption | refine New.drewN ?_ _ | refine New.drew ?_ | refine New.alloc ?_ _ | refine New.setCell ?_ (by first | omega | (simp; omega) | (simp; done)) _ | (refine New.trans ?_ (by assumption))))⟩

set_option maxRecDepth 100000 in
theorem isRatioWithin_any (w : World) (a b N D : Int) (n0 : 0 ≤ N) (n1 : N ≤ 1000000000000) (d1 : D ≤ 1000000000) :
    Calls Try.prog 39 #[ratV (a, b), .int .i64 N, .int .i64 D] w fun e w' => e = .returned (.bool (goodR N D a b)) ∧ New w w' := by
  by_cases h0 : 1 ≤ b
  · by_cases h1 : b ≤ D
    · by_cases h2 : -N ≤ a
      · by_cases h3 : a ≤ N
        · have H0 := Lib.hid (show inB 1 D b = true from inB_iff.2 ⟨h0, h1⟩)
          have H1 := Lib.hid (show inB (-N) N a = true from inB_iff.2 ⟨h2, h3⟩)
          obtain ⟨bn, rfl⟩ : ∃ m : Nat, b = (m : Int) := ⟨b.toNat, by omega⟩
          obtain ⟨g, hg⟩ : ∃ g : Nat, Int.gcd a (bn : Int) = g := ⟨_, rfl⟩
          have HG := Lib.hid (show goodR N D a (bn : Int) = ((g : Int) == 1) by
            unfold goodR
            rw [H0.out, H1.out, hg, ← beq_cast]; rfl)
          by_cases hs : 0 ≤ a
          · obtain ⟨m, rfl⟩ : ∃ m : Nat, a = (m : Int) := ⟨a.natAbs, by omega⟩
            have hz : ¬ (-(m : Int) > (m : Int)) := by omega
            have HN := Lib.hid (show Nat.gcd m bn = g by rw [← hg]; unfold Int.gcd; simp)
            have hm : m ≤ 4611686018427387904 := by omega
            have hbn : bn ≤ 4611686018427387904 := by omega
            clear hg
            go_enter Try.func39, Try.ntmps39
            go_wp2_with fail
            refine (greatestDivisorB_any _ m bn hm hbn).mono ?_
            rintro e w1 ⟨rfl, n1⟩
            rw [HN.out]
            have N1 := Lib.hid (show New w w1 from New.trans (by repeat (first | with_reducible exact New.refl _ | with_reducible assumption | refine New.drewN ?_ _ | refine New.drew ?_ | refine New.alloc ?_ _ | refine New.setCell ?_ (by first | omega | (simp; omega) | (simp; done)) _ | (refine New.trans ?_ (by assumption)))) n1); clear n1
            go_wp2
            go_ret
            exact ⟨ret_bool (by first | exact HG.out.symm | (rw [HG.out]; simp)), N1.out⟩
          · obtain ⟨m, rfl⟩ : ∃ m : Nat, a = -(m : Int) := ⟨a.natAbs, by omega⟩
            have hz : -(-(m : Int)) > -(m : Int) := by omega
            have HN := Lib.hid (show Nat.gcd m bn = g by rw [← hg]; unfold Int.gcd; simp)
            have hm : m ≤ 4611686018427387904 := by omega
            have hbn : bn ≤ 4611686018427387904 := by omega
            clear hg
            go_enter Try.func39, Try.ntmps39
            go_wp2_with fail
            refine (greatestDivisorB_any _ m bn hm hbn).mono ?_
            rintro e w1 ⟨rfl, n1⟩
            rw [HN.out]
            have N1 := Lib.hid (show New w w1 from New.trans (by repeat (first | with_reducible exact New.refl _ | with_reducible assumption | refine New.drewN ?_ _ | refine New.drew ?_ | refine New.alloc ?_ _ | refine New.setCell ?_ (by first | omega | (simp; omega) | (simp; done)) _ | (refine New.trans ?_ (by assumption)))) n1); clear n1
            go_wp2
            go_ret
            exact ⟨ret_bool (by first | exact HG.out.symm | (rw [HG.out]; simp)), N1.out⟩
        · have h3f : decide (a ≤ N) = false := by simpa using h3
          have HG := Lib.hid (show goodR N D a b = false from bool_no fun h => by have := goodR_iff.1 h; omega)
          go_enter Try.func39, Try.ntmps39
          go_wp2
          go_ret
          exact ⟨ret_bool HG.out.symm, (by repeat (first | with_reducible exact New.refl _ | with_reducible assumption | refine New.drewN ?_ _ | refine New.drew ?_ | refine New.alloc ?_ _ | refine New.setCell ?_ (by first | omega | (simp; omega) | (simp; done)) _ | (refine New.trans ?_ (by assumption))))⟩
      · have h2f : decide (-N ≤ a) = false := by simpa using h2
        have HG := Lib.hid (show goodR N D a b = false from bool_no fun h => by have := goodR_iff.1 h; omega)
        go_enter Try.func39, Try.ntmps39
        go_wp2
        go_ret
        exact ⟨ret_bool HG.out.symm, (by repeat (first | with_reducible exact New.refl _ | with_reducible assumption | refine New.drewN ?_ _ | refine New.drew ?_ | refine New.alloc ?_ _ | refine New.setCell ?_ (by first | omega | (simp; omega) | (simp; done)) _ | (refine New.trans ?_ (by assumption))))⟩
    · have h1f : decide (b ≤ D) = false := by simpa using h1
      have HG := Lib.hid (show goodR N D a b = false from bool_no fun h => by have := goodR_iff.1 h; omega)
      go_enter Try.func39, Try.ntmps39
      go_wp2
      go_ret
      exact ⟨ret_bool HG.out.symm, (by repeat (first | with_reducible exact New.refl _ | with_reducible assumption | refine New.drewN ?_ _ | refine New.drew ?_ | refine New.alloc ?_ _ | refine New.setCell ?_ (by first | omega | (simp; omega) | (simp; done)) _ | (refine New.trans ?_ (by assumption))))⟩
  · have h0f : decide (1 ≤ b) = false := by simpa using h0
    have HG := Lib.hid (show goodR N D a b = false from bool_no fun h => by have := goodR_iff.1 h; omega)
    go_enter Try.func39, Try.ntmps39
    go_wp2
    go_ret
    exact ⟨ret_bool HG.out.symm, (by repeat (first | with_reducible exact New.refl _ | with_reducible assumption | refine New.drewN ?_ _ | refine New.drew ?_ | refine New.alloc ?_ _ | refine New.setCell ?_ (by first | omega | (simp; omega) | (simp; done)) _ | (refine New.trans ?_ (by assumption))))⟩

theorem iIsRatio_any (w : World) (a b : Int) :
    Calls Try.prog 26 #[ratV (a, b)] w fun e w' => e = .returned (.bool (sgR a b)) ∧ New w w' := by
  go_enter Try.func26, Try.ntmps26
  go_wp2_with fail
  refine (isRatioWithin_any _ a b 1000000000 1000000000 (by omega) (by omega) (by omega)).mono ?_
  rintro e w1 ⟨rfl, n1⟩
  go_wp2
  go_ret
  exact ⟨rfl, (show New w w1 from New.trans (by repeat (first | with_reducible exact New.refl _ | with_reducible assumption | refine New.drewN ?_ _ | refine New.drew ?_ | refine New.alloc ?_ _ | refine New.setCell ?_ (by first | omega | (simp; omega) | (simp; done)) _ | (refine New.trans ?_ (by assumption)))) n1)⟩

set_option maxRecDepth 100000 in
theorem saRatio_any (w : World) (n d : Int) (hd : 0 < d) (h1 : -4611686018427387904 ≤ n) (h2 : n ≤ 4611686018427387904) (h3 : d ≤ 4611686018427387904) :
    Calls Try.prog 23 #[.int .i64 n, .int .i64 d] w fun e w' => e = .returned (.tuple #[ratV (red n d), .bool (sgR (red n d).1 (red n d).2)]) ∧ New w w' := by
  obtain ⟨g, hg⟩ : ∃ g : Nat, g = Int.gcd n d := ⟨_, rfl⟩
  have hgp : 0 < g := by have := gcd_pos (n := n) hd; omega
  have hgd : (g : Int) ≤ d := by
    have h1 := (red_mul n d).2
    have h2 := red_pos (n := n) hd
    rw [← hg] at h1
    have := Int.mul_le_mul_of_nonneg_right (show 1 ≤ (red n d).2 by omega) (show (0 : Int) ≤ g by omega)
    omega
  have t1 : n.tdiv (g : Int) = (red n d).1 := tdiv_red1 (by rw [hg]) (by omega)
  have t2 : d.tdiv (g : Int) = (red n d).2 := tdiv_red2 (by rw [hg]) (by omega)
  have b := red_le (n := n) hd
  have bp := red_pos (n := n) hd
  obtain ⟨x, hx⟩ : ∃ x, x = (red n d).1 := ⟨_, rfl⟩
  obtain ⟨y, hy⟩ : ∃ y, y = (red n d).2 := ⟨_, rfl⟩
  rw [← hx] at t1 b
  rw [← hy] at t2 b bp
  have HR := Lib.hid (show red n d = (x, y) by rw [hx, hy]); clear hx hy
  have bx : -4611686018427387904 ≤ x ∧ x ≤ 4611686018427387904 := by omega
  have by_ : y ≤ 4611686018427387904 := by omega
  clear b
  have HG := Lib.hid hg; clear hg
  have g0 : ¬ (g : Int) = 0 := by omega
  have w1 : IntKind.i64.wrap (n.tdiv (g : Int)) = x := by rw [t1]; exact i64_in _ (by omega)
  have w2 : IntKind.i64.wrap (d.tdiv (g : Int)) = y := by rw [t2]; exact i64_in _ (by omega)
  have e2 : d / (g : Int) = y := by rw [← t2, Int.tdiv_eq_ediv_of_nonneg (by omega)]
  obtain ⟨dn, rfl⟩ : ∃ m : Nat, d = (m : Int) := ⟨d.toNat, by omega⟩
  by_cases hs : 0 ≤ n
  · obtain ⟨m, rfl⟩ : ∃ m : Nat, n = (m : Int) := ⟨n.toNat, by omega⟩
    have e1 : (m : Int) / (g : Int) = x := by rw [← t1, Int.tdiv_eq_ediv_of_nonneg (by omega)]
    have hz : ¬ (-(m : Int) > (m : Int)) := by omega
    have HG' := Lib.hid (show Nat.gcd m dn = g by rw [HG.out]; rfl)
    clear t1 t2
    go_enter Try.func23, Try.ntmps23
    go_wp2_with fail
    refine (l1Abs_any _ _ (by omega) (by omega)).mono ?_
    rintro e w0' ⟨rfl, rfl⟩
    rw [show ((((m : Int)).natAbs : Nat) : Int) = (m : Int) by omega]
    go_wp2_with fail
    refine (veCommonB_any _ m dn (by omega) (by omega)).mono ?_
    rintro e w1' ⟨rfl, n1⟩
    rw [HG'.out]
    obtain ⟨c0, c1, f0, f1, hs0⟩ := n1.box
    have N1 := Lib.hid (show New w w1' from New.trans ((New.refl w).alloc _) n1); clear n1
    go_wp2
    go_region
    all_goals
      go_upto_region 3 with fail
      obtain ⟨v0, hv0⟩ : ∃ xx : World, xx = (w1'.alloc (.cells #[.int .i64 x, .int .i64 y] 27)).drew := ⟨_, rfl⟩
      rw [← hv0]
      have M0 : New w1' v0 := by rw [hv0]; exact (by repeat (first | with_reducible exact New.refl _ | with_reducible assumption | refine New.drewN ?_ _ | refine New.drew ?_ | refine New.alloc ?_ _ | refine New.setCell ?_ (by first | omega | (simp; omega) | (simp; done)) _ | (refine New.trans ?_ (by assumption))))
      have l0_v0 : v0.cell? ⟨w1'.heap.size, 0, none⟩ = some (.int .i64 x) := by rw [hv0]; exact ((New.refl _).drew).cell (by simp)
      have l1_v0 : v0.cell? ⟨w1'.heap.size, 1, none⟩ = some (.int .i64 y) := by rw [hv0]; exact ((New.refl _).drew).cell (by simp)
      have r0_v0 := M0.cell c0
      have r1_v0 := M0.cell c1
      have zr0_v0 := M0.frz c0 f0
      have zr1_v0 := M0.frz c1 f1
      have N0 := Lib.hid (N1.out.trans M0)
      obtain ⟨B, hB⟩ : ∃ B, B = w1'.heap.size := ⟨_, rfl⟩
      rw [← hB] at hs0 l0_v0 l1_v0 ⊢
      clear M0 hv0 hB c0 c1 f0 f1 w1 w2 e1 e2 HG HG' g0
      go_region_held3 (fun w' => w'.cell? ⟨B, 0, none⟩ = some (.int .i64 x) ∧ w'.cell? ⟨B, 1, none⟩ = some (.int .i64 y))
        (first | with_reducible exact ⟨l0_v0, l1_v0⟩ | with_reducible exact ⟨l0_u1, l1_u1⟩ | with_reducible exact ⟨World.cell_set (World.cell_set (l0_u1) (by simp; try omega)) (by simp; try omega), World.cell_set (World.cell_set (l1_u1) (by simp; try omega)) (by simp; try omega)⟩ | exact ⟨l0_v0, l1_v0⟩ | fail)
        (first
          | (go_at_call 28; refine (saGood_any _ x y).mono ?_; rintro e u1 ⟨rfl, n_u1⟩; (try replace n_u1 := New.undrew n_u1); have l0_u1 : u1.cell? ⟨B, 0, none⟩ = some (.int .i64 x) := n_u1.cell l0_v0; have l1_u1 : u1.cell? ⟨B, 1, none⟩ = some (.int .i64 y) := n_u1.cell l1_v0; have r0_u1 : u1.cell? ⟨w.heap.size, 0, none⟩ = some (.int .i64 0) := n_u1.cell r0_v0; have zr0_u1 : u1.frozen? ⟨w.heap.size, 0, none⟩ = false := n_u1.frz r0_v0 zr0_v0; have r1_u1 : u1.cell? ⟨w.heap.size, 1, none⟩ = some (.int .i64 0) := n_u1.cell r1_v0; have zr1_u1 : u1.frozen? ⟨w.heap.size, 1, none⟩ = false := n_u1.frz r1_v0 zr1_v0;  skip))
      have K_u1 := Lib.hid (show New v0 u1 from n_u1); clear n_u1
      go_wp2
      refine bodyPost_ret (v := .tuple #[ratV (x, y), .bool (sgR x y)]) (by simp [results, Try.results23, go_sem, r0_u1, r1_u1]) rfl ⟨by rw [HR.out], ?_⟩
      have := N0.out.trans K_u1.out
      (repeat (first | with_reducible exact New.refl _ | with_reducible assumption | refine New.drewN ?_ _ | refine New.drew ?_ | refine New.alloc ?_ _ | refine New.setCell ?_ (by first | omega | (simp; omega) | (simp; done)) _ | (refine New.trans ?_ (by assumption))))
  · obtain ⟨m, rfl⟩ : ∃ m : Nat, n = -(m : Int) := ⟨(-n).toNat, by omega⟩
    have hz : -(-(m : Int)) > -(m : Int) := by omega
    have HG' := Lib.hid (show Nat.gcd m dn = g by rw [HG.out]; show _ = Nat.gcd (-(m : Int)).natAbs dn; congr 1; omega)
    have e1 : -((m : Int) / (g : Int)) = x := by rw [← t1, Int.neg_tdiv, Int.tdiv_eq_ediv_of_nonneg (by omega)]
    clear t1 t2
    go_enter Try.func23, Try.ntmps23
    go_wp2_with fail
    refine (l1Abs_any _ _ (by omega) (by omega)).mono ?_
    rintro e w0' ⟨rfl, rfl⟩
    rw [show (((-(m : Int)).natAbs : Nat) : Int) = (m : Int) by omega]
    go_wp2_with fail
    refine (veCommonB_any _ m dn (by omega) (by omega)).mono ?_
    rintro e w1' ⟨rfl, n1⟩
    rw [HG'.out]
    obtain ⟨c0, c1, f0, f1, hs0⟩ := n1.box
    have N1 := Lib.hid (show New w w1' from New.trans ((New.refl w).alloc _) n1); clear n1
    go_wp2
    go_region
    all_goals
      go_upto_region 3 with fail
      obtain ⟨v0, hv0⟩ : ∃ xx : World, xx = (w1'.alloc (.cells #[.int .i64 x, .int .i64 y] 27)).drew := ⟨_, rfl⟩
      rw [← hv0]
      have M0 : New w1' v0 := by rw [hv0]; exact (by repeat (first | with_reducible exact New.refl _ | with_reducible assumption | refine New.drewN ?_ _ | refine New.drew ?_ | refine New.alloc ?_ _ | refine New.setCell ?_ (by first | omega | (simp; omega) | (simp; done)) _ | (refine New.trans ?_ (by assumption))))
      have l0_v0 : v0.cell? ⟨w1'.heap.size, 0, none⟩ = some (.int .i64 x) := by rw [hv0]; exact ((New.refl _).drew).cell (by simp)
      have l1_v0 : v0.cell? ⟨w1'.heap.size, 1, none⟩ = some (.int .i64 y) := by rw [hv0]; exact ((New.refl _).drew).cell (by simp)
      have r0_v0 := M0.cell c0
      have r1_v0 := M0.cell c1
      have zr0_v0 := M0.frz c0 f0
      have zr1_v0 := M0.frz c1 f1
      have N0 := Lib.hid (N1.out.trans M0)
      obtain ⟨B, hB⟩ : ∃ B, B = w1'.heap.size := ⟨_, rfl⟩
      rw [← hB] at hs0 l0_v0 l1_v0 ⊢
      clear M0 hv0 hB c0 c1 f0 f1 w1 w2 e1 e2 HG HG' g0
      go_region_held3 (fun w' => w'.cell? ⟨B, 0, none⟩ = some (.int .i64 x) ∧ w'.cell? ⟨B, 1, none⟩ = some (.int .i64 y))
        (first | with_reducible exact ⟨l0_v0, l1_v0⟩ | with_reducible exact ⟨l0_u1, l1_u1⟩ | with_reducible exact ⟨World.cell_set (World.cell_set (l0_u1) (by simp; try omega)) (by simp; try omega), World.cell_set (World.cell_set (l1_u1) (by simp; try omega)) (by simp; try omega)⟩ | exact ⟨l0_v0, l1_v0⟩ | fail)
        (first
          | (go_at_call 28; refine (saGood_any _ x y).mono ?_; rintro e u1 ⟨rfl, n_u1⟩; (try replace n_u1 := New.undrew n_u1); have l0_u1 : u1.cell? ⟨B, 0, none⟩ = some (.int .i64 x) := n_u1.cell l0_v0; have l1_u1 : u1.cell? ⟨B, 1, none⟩ = some (.int .i64 y) := n_u1.cell l1_v0; have r0_u1 : u1.cell? ⟨w.heap.size, 0, none⟩ = some (.int .i64 0) := n_u1.cell r0_v0; have zr0_u1 : u1.frozen? ⟨w.heap.size, 0, none⟩ = false := n_u1.frz r0_v0 zr0_v0; have r1_u1 : u1.cell? ⟨w.heap.size, 1, none⟩ = some (.int .i64 0) := n_u1.cell r1_v0; have zr1_u1 : u1.frozen? ⟨w.heap.size, 1, none⟩ = false := n_u1.frz r1_v0 zr1_v0;  skip))
      have K_u1 := Lib.hid (show New v0 u1 from n_u1); clear n_u1
      go_wp2
      refine bodyPost_ret (v := .tuple #[ratV (x, y), .bool (sgR x y)]) (by simp [results, Try.results23, go_sem, r0_u1, r1_u1]) rfl ⟨by rw [HR.out], ?_⟩
      have := N0.out.trans K_u1.out
      (repeat (first | with_reducible exact New.refl _ | with_reducible assumption | refine New.drewN ?_ _ | refine New.drew ?_ | refine New.alloc ?_ _ | refine New.setCell ?_ (by first | omega | (simp; omega) | (simp; done)) _ | (refine New.trans ?_ (by assumption))))

set_option maxRecDepth 100000 in
theorem saTimes_any (w : World) (a b n d : Int) (hb : 0 < b * d) (h1 : -4000000000000000000 ≤ a * n) (h2 : a * n ≤ 4000000000000000000) (h5 : b * d ≤ 4000000000000000000) :
    Calls Try.prog 36 #[ratV (a, b), .int .i64 n, .int .i64 d] w fun e w' => e = .returned (.tuple #[ratV (red (a * n) (b * d)), .bool (sgR (red (a * n) (b * d)).1 (red (a * n) (b * d)).2)]) ∧ New w w' := by
  go_enter Try.func36, Try.ntmps36
  go_wp2_with fail
  refine (saRatio_any _ _ _ hb (by omega) (by omega) (by omega)).mono ?_
  rintro e w1 ⟨rfl, n1⟩
  obtain ⟨c0, c1, f0, f1⟩ := pair_kept (p := ⟨w.heap.size + 1, 0, none⟩) (q := ⟨w.heap.size + 1, 1, none⟩) (x := .int .i64 0) (y := .int .i64 0) n1 (by simp [go_sem])
  have N1 := Lib.hid (show New w w1 from New.trans (by repeat (first | with_reducible exact New.refl _ | with_reducible assumption | refine New.drewN ?_ _ | refine New.drew ?_ | refine New.alloc ?_ _ | refine New.setCell ?_ (by first | omega | (simp; omega) | (simp; done)) _ | (refine New.trans ?_ (by assumption)))) n1); clear n1
  obtain ⟨p, hp⟩ : ∃ p, p = red (a * n) (b * d) := ⟨_, rfl⟩
  rw [← hp]
  have HP := Lib.hid hp; clear hp
  obtain ⟨g, hg⟩ : ∃ g, g = sgR p.1 p.2 := ⟨_, rfl⟩
  rw [← hg]
  have HG := Lib.hid hg; clear hg
  go_wp2
  refine bodyPost_ret (v := .tuple #[ratV p, .bool g]) (by simp [results, Try.results36, go_sem, c0, c1]) rfl ⟨by rw [HG.out, HP.out], ?_⟩
  have := N1.out
  (repeat (first | with_reducible exact New.refl _ | with_reducible assumption | refine New.drewN ?_ _ | refine New.drew ?_ | refine New.alloc ?_ _ | refine New.setCell ?_ (by first | omega | (simp; omega) | (simp; done)) _ | (refine New.trans ?_ (by assumption))))

/-- A ratio if it is one, else nothing. -/
def okR (p : Int × Int) : Int × Int := if sgR p.1 p.2 = true then p else (0, 0)
theorem okR_yes {p : Int × Int} (h : sgR p.1 p.2 = true) : okR p = p := by unfold okR; rw [if_pos h]
theorem okR_no {p : Int × Int} (h : sgR p.1 p.2 = false) : okR p = (0, 0) := by unfold okR; rw [h]; rfl

set_option maxRecDepth 100000 in
set_option maxHeartbeats 1000000 in
theorem sharedOut_any (w : World) (a b k : Int) (hb : 0 < b * k) (h1 : -4000000000000000000 ≤ a) (h2 : a ≤ 4000000000000000000) (h3 : b * k ≤ 4000000000000000000) :
    Calls Try.prog 34 #[ratV (a, b), .int .i64 k] w fun e w' => e = .returned (.tuple #[ratV (okR (red a (b * k))), .bool (sgR (red a (b * k)).1 (red a (b * k)).2)]) ∧ New w w' := by
  obtain ⟨x, hx⟩ : ∃ x, x = (red a (b * k)).1 := ⟨_, rfl⟩
  obtain ⟨y, hy⟩ : ∃ y, y = (red a (b * k)).2 := ⟨_, rfl⟩
  have HP := Lib.hid (show red a (b * k) = (x, y) by rw [hx, hy]); clear hx hy
  rw [HP.out]
  by_cases hg : sgR x y = true
  · have HG := Lib.hid hg
    have HG2 := Lib.hid (show sgR ((x, y) : Int × Int).1 ((x, y) : Int × Int).2 = true from hg)
    have HM := Lib.hid (okR_yes HG2.out)
    clear hg
    go_enter Try.func34, Try.ntmps34
    go_wp2_with fail
    refine (over_any _ a b k (by omega) (by omega) (by omega) (by omega)).mono ?_
    rintro e w1 ⟨rfl, n1⟩
    rw [HP.out]
    obtain ⟨c0, c1, f0, f1⟩ := pair_kept (p := ⟨w.heap.size + 1, 0, none⟩) (q := ⟨w.heap.size + 1, 1, none⟩) (x := .int .i64 0) (y := .int .i64 0) n1 (by simp [go_sem])
    have N1 := Lib.hid (show New w w1 from New.trans (by repeat (first | with_reducible exact New.refl _ | with_reducible assumption | refine New.drewN ?_ _ | refine New.drew ?_ | refine New.alloc ?_ _ | refine New.setCell ?_ (by first | omega | (simp; omega) | (simp; done)) _ | (refine New.trans ?_ (by assumption)))) n1); clear n1
    have hz := World.block_lt_of_cell? _ _ c0
    simp only at hz
    go_upto_region 2 with fail
    obtain ⟨v0, hv0⟩ : ∃ xx : World, xx = w1.alloc (.cells #[.int .i64 x, .int .i64 y] 27) := ⟨_, rfl⟩
    rw [← hv0]
    have M0 : New w1 v0 := by rw [hv0]; exact (by repeat (first | with_reducible exact New.refl _ | with_reducible assumption | refine New.drewN ?_ _ | refine New.drew ?_ | refine New.alloc ?_ _ | refine New.setCell ?_ (by first | omega | (simp; omega) | (simp; done)) _ | (refine New.trans ?_ (by assumption))))
    have l0 : v0.cell? ⟨w1.heap.size, 0, none⟩ = some (.int .i64 x) := by rw [hv0]; simp
    have l1 : v0.cell? ⟨w1.heap.size, 1, none⟩ = some (.int .i64 y) := by rw [hv0]; simp
    obtain ⟨c0, c1, f0, f1⟩ := pair_kept M0 ⟨c0, c1, f0, f1⟩
    have N0 := Lib.hid (N1.out.trans M0)
    obtain ⟨B, hB⟩ : ∃ B, B = w1.heap.size := ⟨_, rfl⟩
    rw [← hB] at hz l0 l1 ⊢
    clear M0 hv0 hB N1
    go_wp2_with fail
    refine (iIsRatio_any _ x y).mono ?_
    rintro e w2 ⟨rfl, n2⟩
    rw [HG.out]
    replace l0 := n2.cell l0
    replace l1 := n2.cell l1
    obtain ⟨c0, c1, f0, f1⟩ := pair_kept n2 ⟨c0, c1, f0, f1⟩
    have N2 := Lib.hid (N0.out.trans n2); clear n2
    go_wp2
    refine bodyPost_ret (v := .tuple #[ratV (x, y), .bool true]) (by simp [results, Try.results34, go_sem, c0, c1]) rfl ⟨by rw [HM.out, HG2.out], ?_⟩
    have := N2.out
    (repeat (first | with_reducible exact New.refl _ | with_reducible assumption | refine New.drewN ?_ _ | refine New.drew ?_ | refine New.alloc ?_ _ | refine New.setCell ?_ (by first | omega | (simp; omega) | (simp; done)) _ | (refine New.trans ?_ (by assumption))))
  · have hg := bool_no hg
    have HG := Lib.hid hg
    have HG2 := Lib.hid (show sgR ((x, y) : Int × Int).1 ((x, y) : Int × Int).2 = false from hg)
    have HM := Lib.hid (okR_no HG2.out)
    clear hg
    go_enter Try.func34, Try.ntmps34
    go_wp2_with fail
    refine (over_any _ a b k (by omega) (by omega) (by omega) (by omega)).mono ?_
    rintro e w1 ⟨rfl, n1⟩
    rw [HP.out]
    obtain ⟨c0, c1, f0, f1⟩ := pair_kept (p := ⟨w.heap.size + 1, 0, none⟩) (q := ⟨w.heap.size + 1, 1, none⟩) (x := .int .i64 0) (y := .int .i64 0) n1 (by simp [go_sem])
    have N1 := Lib.hid (show New w w1 from New.trans (by repeat (first | with_reducible exact New.refl _ | with_reducible assumption | refine New.drewN ?_ _ | refine New.drew ?_ | refine New.alloc ?_ _ | refine New.setCell ?_ (by first | omega | (simp; omega) | (simp; done)) _ | (refine New.trans ?_ (by assumption)))) n1); clear n1
    have hz := World.block_lt_of_cell? _ _ c0
    simp only at hz
    go_upto_region 2 with fail
    obtain ⟨v0, hv0⟩ : ∃ xx : World, xx = w1.alloc (.cells #[.int .i64 x, .int .i64 y] 27) := ⟨_, rfl⟩
    rw [← hv0]
    have M0 : New w1 v0 := by rw [hv0]; exact (by repeat (first | with_reducible exact New.refl _ | with_reducible assumption | refine New.drewN ?_ _ | refine New.drew ?_ | refine New.alloc ?_ _ | refine New.setCell ?_ (by first | omega | (simp; omega) | (simp; done)) _ | (refine New.trans ?_ (by assumption))))
    have l0 : v0.cell? ⟨w1.heap.size, 0, none⟩ = some (.int .i64 x) := by rw [hv0]; simp
    have l1 : v0.cell? ⟨w1.heap.size, 1, none⟩ = some (.int .i64 y) := by rw [hv0]; simp
    obtain ⟨c0, c1, f0, f1⟩ := pair_kept M0 ⟨c0, c1, f0, f1⟩
    have N0 := Lib.hid (N1.out.trans M0)
    obtain ⟨B, hB⟩ : ∃ B, B = w1.heap.size := ⟨_, rfl⟩
    rw [← hB] at hz l0 l1 ⊢
    clear M0 hv0 hB N1
    go_wp2_with fail
    refine (iIsRatio_any _ x y).mono ?_
    rintro e w2 ⟨rfl, n2⟩
    rw [HG.out]
    replace l0 := n2.cell l0
    replace l1 := n2.cell l1
    obtain ⟨c0, c1, f0, f1⟩ := pair_kept n2 ⟨c0, c1, f0, f1⟩
    have N2 := Lib.hid (N0.out.trans n2); clear n2
    go_wp2
    refine bodyPost_ret (v := .tuple #[ratV (0, 0), .bool false]) (by simp [results, Try.results34, go_sem, c0, c1]) rfl ⟨by rw [HM.out, HG2.out], ?_⟩
    have := N2.out
    (repeat (first | with_reducible exact New.refl _ | with_reducible assumption | refine New.drewN ?_ _ | refine New.drew ?_ | refine New.alloc ?_ _ | refine New.setCell ?_ (by first | omega | (simp; omega) | (simp; done)) _ | (refine New.trans ?_ (by assumption))))
end Go.Proofs.Ytefpnlimkelehaa
