/- Which ratios there are: the model's and the program's tests; bounds of levels that are asked for. -/
import Derived.Test.YtklfelbolblgfaaRatS
import Derived.Deep.QuietTactic
namespace Go.Proofs.Ytklfelbolblgfaa
open Go.RowKit Go.IntWalk

/-- In lowest terms, with numbers within N and D. -/
def goodR (N D a b : Int) : Bool := inB 1 D b && inB (-N) N a && (Int.gcd a b == 1)
theorem goodR_iff {N D a b : Int} : goodR N D a b = true ↔ (1 ≤ b ∧ b ≤ D) ∧ (-N ≤ a ∧ a ≤ N) ∧ Int.gcd a b = 1 := by
  unfold goodR
  rw [Bool.and_eq_true, Bool.and_eq_true, inB_iff, inB_iff, beq_iff_eq]
  exact ⟨fun h => ⟨h.1.1, h.1.2, h.2⟩, fun h => ⟨⟨h.1, h.2.1⟩, h.2.2⟩⟩

theorem beq_cast (g : Nat) : (g == 1) = ((g : Int) == 1) := by
  by_cases e : g = 1
  · subst e; rfl
  · have e2 : ¬ (g : Int) = 1 := by omega
    rw [beq_eq_false_iff_ne.2 e, beq_eq_false_iff_ne.2 e2]
theorem l1InQ {n lo hi : Int} {v : Bool} (h : inB lo hi n = v) (w : World) :
    Calls Try.prog 78 #[.int .i64 n, .int .i64 lo, .int .i64 hi] w fun e w' => e = .returned (.bool v) ∧ ∃ q, w' = w.drewN q :=
  (l1In_any n lo hi w).mono fun e w' k => ⟨by rw [k.1, h], 0, k.2.symm⟩
theorem l1AbsQ {a : Int} {v : Nat} (w : World) (h1 : -4611686018427387904 ≤ a) (h2 : a ≤ 4611686018427387904) (h : a.natAbs = v) :
    Calls Try.prog 82 #[.int .i64 a] w fun e w' => e = .returned (.int .i64 (v : Nat)) ∧ ∃ q, w' = w.drewN q :=
  (l1Abs_any w a h1 h2).mono fun e w' k => ⟨by rw [k.1, h], 0, k.2.symm⟩
theorem veCommonQ (w : World) (a b g : Nat) (ha : a ≤ 4611686018427387904) (hb : b ≤ 4611686018427387904) (hg : Nat.gcd a b = g) :
    Calls Try.prog 75 #[.int .i64 a, .int .i64 b] w fun e w' => e = .returned (.int .i64 (g : Nat)) ∧ ∃ q, w' = w.drewN q := by
  subst hg
  go_enter Try.func75, Try.ntmps75
  go_wp2
  go_loopw [0, 1] (fun x y wr => ∃ a' b' q : Nat, x = .int .i64 a' ∧ y = .int .i64 b' ∧ a' ≤ 4611686018427387904 ∧ b' ≤ 4611686018427387904 ∧ Nat.gcd a' b' = Nat.gcd a b ∧ wr = w.drewN q) (fun _ y _ => (intOf y).toNat)
  case atStart => exact ⟨a, b, 0, rfl, rfl, ha, hb, rfl, rfl⟩
  case round =>
    obtain ⟨a', b', q, rfl, rfl, h1, h2, hg, rfl⟩ := hrel
    have HG := Lib.hid hg; clear hg
    by_cases h0 : 0 < b'
    · have h3 : (0 : Int) < b' := by omega
      go_wp2
      go_region
      all_goals
        go_wp2
        go_roundw
        case rel => exact ⟨b', a' % b', q + 1, rfl, by go_num, h2, by have := Nat.mod_lt a' h0; omega, by rw [gcd_step]; exact HG.out, rfl⟩
        case measure => have hm := Nat.mod_lt a' h0; simp [intOf]; omega
    · obtain rfl : b' = 0 := by omega
      go_wp2
      go_ret
      exact ⟨ret_int (by rw [← HG.out]; simp), q, rfl⟩

set_option maxRecDepth 100000 in
set_option maxHeartbeats 1000000 in
theorem leGood_any (w : World) (a b : Int) :
    Calls Try.prog 74 #[ratV (a, b)] w fun e w' => e = .returned (.bool (goodR 1000000000000 1000000 a b)) ∧ New w w' := by
  by_cases h1 : inB 1 1000000 b = true
  · by_cases h2 : inB (-1000000000000) 1000000000000 a = true
    · have i1 := inB_iff.1 h1
      have i2 := inB_iff.1 h2
      obtain ⟨i1a, i1b⟩ := i1
      obtain ⟨i2a, i2b⟩ := i2
      obtain ⟨bn, rfl⟩ : ∃ m : Nat, b = (m : Int) := ⟨b.toNat, by omega⟩
      obtain ⟨an, han⟩ : ∃ m : Nat, a.natAbs = m := ⟨_, rfl⟩
      obtain ⟨g, hg⟩ : ∃ g : Nat, Nat.gcd an bn = g := ⟨_, rfl⟩
      have HG := Lib.hid (show goodR 1000000000000 1000000 a (bn : Int) = ((g : Int) == 1) by
        unfold goodR
        rw [h1, h2]
        have : Int.gcd a (bn : Int) = g := by rw [← hg, ← han]; rfl
        rw [this, ← beq_cast]; rfl)
      have H1 := Lib.hid h1
      have H2 := Lib.hid h2
      have H3 := Lib.hid han
      have H4 := Lib.hid hg
      have anb : an ≤ 4611686018427387904 := by omega
      have bnb : bn ≤ 4611686018427387904 := by omega
      have b3 : -4611686018427387904 ≤ a := by omega
      have b4 : a ≤ 4611686018427387904 := by omega
      clear h1 h2 han hg i1a i1b i2a i2b
      go_enter Try.func74, Try.ntmps74
      go_wp2
      go_quiet (first | (go_at_call_of 78 (Value.int IntKind.i64 (bn : Int)); exact Calls.quiet_of (l1InQ H1.out _)) | (go_at_call_of 78 (Value.int IntKind.i64 a); exact Calls.quiet_of (l1InQ H2.out _)) | (go_at_call 82; exact Calls.quiet_of (l1AbsQ _ b3 b4 H3.out)) | (go_at_call 75; exact Calls.quiet_of (veCommonQ _ an bn g anb bnb H4.out)))
      go_wp2
      go_ret
      exact ⟨ret_bool (by first | exact HG.out.symm | (rw [HG.out]; simp)), (by repeat (first | with_reducible exact New.refl _ | with_reducible assumption | refine New.drewN ?_ _ | refine New.drew ?_ | refine New.alloc ?_ _ | refine New.setCell ?_ (by first | omega | (simp; omega) | (simp; done)) _ | (refine New.trans ?_ (by assumption))))⟩
    · have h2f := bool_no h2
      have HG := Lib.hid (show goodR 1000000000000 1000000 a b = false by unfold goodR; rw [h2f]; simp)
      have H1 := Lib.hid h1
      have H2 := Lib.hid h2f
      clear h1 h2 h2f
      go_enter Try.func74, Try.ntmps74
      go_wp2
      go_quiet (first | (go_at_call_of 78 (Value.int IntKind.i64 b); exact Calls.quiet_of (l1InQ H1.out _)) | (go_at_call_of 78 (Value.int IntKind.i64 a); exact Calls.quiet_of (l1InQ H2.out _)))
      go_wp2
      go_ret
      exact ⟨ret_bool HG.out.symm, (by repeat (first | with_reducible exact New.refl _ | with_reducible assumption | refine New.drewN ?_ _ | refine New.drew ?_ | refine New.alloc ?_ _ | refine New.setCell ?_ (by first | omega | (simp; omega) | (simp; done)) _ | (refine New.trans ?_ (by assumption))))⟩
  · have h1f := bool_no h1
    have HG := Lib.hid (show goodR 1000000000000 1000000 a b = false by unfold goodR; rw [h1f]; simp)
    have H1 := Lib.hid h1f
    clear h1 h1f
    go_enter Try.func74, Try.ntmps74
    go_wp2
    go_quiet (first | (go_at_call 78; exact Calls.quiet_of (l1InQ H1.out _)))
    go_wp2
    go_ret
    exact ⟨ret_bool HG.out.symm, (by repeat (first | with_reducible exact New.refl _ | with_reducible assumption | refine New.drewN ?_ _ | refine New.drew ?_ | refine New.alloc ?_ _ | refine New.setCell ?_ (by first | omega | (simp; omega) | (simp; done)) _ | (refine New.trans ?_ (by assumption))))⟩

set_option maxRecDepth 100000 in
theorem isRatioWithin_any (w : World) (a b N D : Int) (n0 : 0 ≤ N) (n1 : N ≤ 1000000000000) (d1 : D ≤ 1000000) :
    Calls Try.prog 76 #[ratV (a, b), .int .i64 N, .int .i64 D] w fun e w' => e = .returned (.bool (goodR N D a b)) ∧ New w w' := by
  by_cases h0 : 1 ≤ b
  · by_cases h1 : b ≤ D
    · by_cases h2 : -N ≤ a
      · by_cases h3 : a ≤ N
        · have H0 := Lib.hid (show inB 1 D b = true from inB_iff.2 ⟨h0, h1⟩)
          have H1 := Lib.hid (show inB (-N) N a = true from inB_iff.2 ⟨h2, h3⟩)
          obtain ⟨bn, rfl⟩ : ∃ m : Nat, b = (m : Int) := ⟨b.toNat, by omega⟩
          obtain ⟨g, hg⟩ : ∃ g : Nat, Int.gcd a (bn : Int) = g := ⟨_, rfl⟩
          have HG := Lib.hid (show goodR N D a (bn : Int) = ((g : Int) == 1) by
            unfold goodR
            rw [H0.out, H1.out, hg, ← beq_cast]; rfl)
          by_cases hs : 0 ≤ a
          · obtain ⟨m, rfl⟩ : ∃ m : Nat, a = (m : Int) := ⟨a.natAbs, by omega⟩
            have hz : ¬ (-(m : Int) > (m : Int)) := by omega
            have HN := Lib.hid (show Nat.gcd m bn = g by rw [← hg]; unfold Int.gcd; simp)
            have hm : m ≤ 4611686018427387904 := by omega
            have hbn : bn ≤ 4611686018427387904 := by omega
            clear hg
            go_enter Try.func76, Try.ntmps76
            go_wp2_with fail
            refine (greatestDivisorB_any _ m bn hm hbn).mono ?_
            rintro e w1 ⟨rfl, n1⟩
            rw [HN.out]
            have N1 := Lib.hid (show New w w1 from New.trans (by repeat (first | with_reducible exact New.refl _ | with_reducible assumption | refine New.drewN ?_ _ | refine New.drew ?_ | refine New.alloc ?_ _ | refine New.setCell ?_ (by first | omega | (simp; omega) | (simp; done)) _ | (refine New.trans ?_ (by assumption)))) n1); clear n1
            go_wp2
            go_ret
            exact ⟨ret_bool (by first | exact HG.out.symm | (rw [HG.out]; simp)), N1.out⟩
          · obtain ⟨m, rfl⟩ : ∃ m : Nat, a = -(m : Int) := ⟨a.natAbs, by omega⟩
            have hz : -(-(m : Int)) > -(m : Int) := by omega
            have HN := Lib.hid (show Nat.gcd m bn = g by rw [← hg]; unfold Int.gcd; simp)
            have hm : m ≤ 4611686018427387904 := by omega
            have hbn : bn ≤ 4611686018427387904 := by omega
            clear hg
            go_enter Try.func76, Try.ntmps76
            go_wp2_with fail
            refine (greatestDivisorB_any _ m bn hm hbn).mono ?_
            rintro e w1 ⟨rfl, n1⟩
            rw [HN.out]
            have N1 := Lib.hid (show New w w1 from New.trans (by repeat (first | with_reducible exact New.refl _ | with_reducible assumption | refine New.drewN ?_ _ | refine New.drew ?_ | refine New.alloc ?_ _ | refine New.setCell ?_ (by first | omega | (simp; omega) | (simp; done)) _ | (refine New.trans ?_ (by assumption)))) n1); clear n1
            go_wp2
            go_ret
            exact ⟨ret_bool (by first | exact HG.out.symm | (rw [HG.out]; simp)), N1.out⟩
        · have h3f : decide (a ≤ N) = false := by simpa using h3
          have HG := Lib.hid (show goodR N D a b = false from bool_no fun h => by have := goodR_iff.1 h; omega)
          go_enter Try.func76, Try.ntmps76
          go_wp2
          go_ret
          exact ⟨ret_bool HG.out.symm, (by repeat (first | with_reducible exact New.refl _ | with_reducible assumption | refine New.drewN ?_ _ | refine New.drew ?_ | refine New.alloc ?_ _ | refine New.setCell ?_ (by first | omega | (simp; omega) | (simp; done)) _ | (refine New.trans ?_ (by assumption))))⟩
      · have h2f : decide (-N ≤ a) = false := by simpa using h2
        have HG := Lib.hid (show goodR N D a b = false from bool_no fun h => by have := goodR_iff.1 h; omega)
        go_enter Try.func76, Try.ntmps76
        go_wp2
        go_ret
        exact ⟨ret_bool HG.out.symm, (by repeat (first | with_reducible exact New.refl _ | with_reducible assumption | refine New.drewN ?_ _ | refine New.drew ?_ | refine New.alloc ?_ _ | refine New.setCell ?_ (by first | omega | (simp; omega) | (simp; done)) _ | (refine New.trans ?_ (by assumption))))⟩
    · have h1f : decide (b ≤ D) = false := by simpa using h1
      have HG := Lib.hid (show goodR N D a b = false from bool_no fun h => by have := goodR_iff.1 h; omega)
      go_enter Try.func76, Try.ntmps76
      go_wp2
      go_ret
      exact ⟨ret_bool HG.out.symm, (by repeat (first | with_reducible exact New.refl _ | with_reducible assumption | refine New.drewN ?_ _ | refine New.drew ?_ | refine New.alloc ?_ _ | refine New.setCell ?_ (by first | omega | (simp; omega) | (simp; done)) _ | (refine New.trans ?_ (by assumption))))⟩
  · have h0f : decide (1 ≤ b) = false := by simpa using h0
    have HG := Lib.hid (show goodR N D a b = false from bool_no fun h => by have := goodR_iff.1 h; omega)
    go_enter Try.func76, Try.ntmps76
    go_wp2
    go_ret
    exact ⟨ret_bool HG.out.symm, (by repeat (first | with_reducible exact New.refl _ | with_reducible assumption | refine New.drewN ?_ _ | refine New.drew ?_ | refine New.alloc ?_ _ | refine New.setCell ?_ (by first | omega | (simp; omega) | (simp; done)) _ | (refine New.trans ?_ (by assumption))))⟩
end Go.Proofs.Ytklfelbolblgfaa
