/- The program's ratios: lowest terms, sums, differences, products. -/
import Derived.Test.YtefpnlimkelehaaGcdB
import Derived.Deep.RegionHeld3
import Derived.Deep.DeepCutAuto
namespace Go.Proofs.Ytefpnlimkelehaa
open Go.RowKit Go.IntWalk

set_option maxRecDepth 100000 in
theorem ratioOf_any (w : World) (n d : Int) (hd : 0 < d) (h1 : -4611686018427387904 ≤ n) (h2 : n ≤ 4611686018427387904) (h3 : d ≤ 4611686018427387904) :
    Calls Try.prog 44 #[.int .i64 n, .int .i64 d] w fun e w' => e = .returned (ratV (red n d)) ∧ New w w' := by
  obtain ⟨g, hg⟩ : ∃ g : Nat, g = Int.gcd n d := ⟨_, rfl⟩
  have hgp : 0 < g := by have := gcd_pos (n := n) hd; omega
  have hgd : (g : Int) ≤ d := by
    have h1 := (red_mul n d).2
    have h2 := red_pos (n := n) hd
    rw [← hg] at h1
    have := Int.mul_le_mul_of_nonneg_right (show 1 ≤ (red n d).2 by omega) (show (0 : Int) ≤ g by omega)
    omega
  have t1 : n.tdiv (g : Int) = (red n d).1 := tdiv_red1 (by rw [hg]) (by omega)
  have t2 : d.tdiv (g : Int) = (red n d).2 := tdiv_red2 (by rw [hg]) (by omega)
  have b := red_le (n := n) hd
  have bp := red_pos (n := n) hd
  obtain ⟨x, hx⟩ : ∃ x, x = (red n d).1 := ⟨_, rfl⟩
  obtain ⟨y, hy⟩ : ∃ y, y = (red n d).2 := ⟨_, rfl⟩
  rw [← hx] at t1 b
  rw [← hy] at t2 b bp
  have HR := Lib.hid (show red n d = (x, y) by rw [hx, hy]); clear hx hy
  have bx : -4611686018427387904 ≤ x ∧ x ≤ 4611686018427387904 := by omega
  have by_ : y ≤ 4611686018427387904 := by omega
  clear b
  have HG := Lib.hid hg; clear hg
  have g0 : ¬ (g : Int) = 0 := by omega
  have w1 : IntKind.i64.wrap (n.tdiv (g : Int)) = x := by rw [t1]; exact i64_in _ (by omega)
  have w2 : IntKind.i64.wrap (d.tdiv (g : Int)) = y := by rw [t2]; exact i64_in _ (by omega)
  have e2 : d / (g : Int) = y := by rw [← t2, Int.tdiv_eq_ediv_of_nonneg (by omega)]
  obtain ⟨dn, rfl⟩ : ∃ m : Nat, d = (m : Int) := ⟨d.toNat, by omega⟩
  by_cases hs : 0 ≤ n
  · obtain ⟨m, rfl⟩ : ∃ m : Nat, n = (m : Int) := ⟨n.toNat, by omega⟩
    have e1 : (m : Int) / (g : Int) = x := by rw [← t1, Int.tdiv_eq_ediv_of_nonneg (by omega)]
    have hz : ¬ (-(m : Int) > (m : Int)) := by omega
    have HG' := Lib.hid (show Nat.gcd m dn = g by rw [HG.out]; rfl)
    clear t1 t2
    go_enter Try.func44, Try.ntmps44
    go_wp2_with fail
    refine (greatestDivisorB_any _ m dn (by omega) (by omega)).mono ?_
    rintro e w1' ⟨rfl, n1⟩
    rw [HG'.out]
    obtain ⟨c0, c1, f0, f1, hs0⟩ := n1.box
    have N1 := Lib.hid (show New w w1' from New.trans ((New.refl w).alloc _) n1); clear n1
    go_wp2
    go_region
    all_goals
      go_wp2
      refine bodyPost_ret (v := .agg #[.int .i64 x, .int .i64 y]) (by simp [results, Try.results44, go_sem, c0, c1]) rfl ?_
      exact ⟨by rw [HR.out], by have := N1.out; (repeat (first | with_reducible exact New.refl _ | with_reducible assumption | refine New.drewN ?_ _ | refine New.drew ?_ | refine New.alloc ?_ _ | refine New.setCell ?_ (by first | omega | (simp; omega) | (simp; done)) _ | (refine New.trans ?_ (by assumption))))⟩
  · obtain ⟨m, rfl⟩ : ∃ m : Nat, n = -(m : Int) := ⟨(-n).toNat, by omega⟩
    have hz : -(-(m : Int)) > -(m : Int) := by omega
    have HG' := Lib.hid (show Nat.gcd m dn = g by rw [HG.out]; show _ = Nat.gcd (-(m : Int)).natAbs dn; congr 1; omega)
    have e1 : -((m : Int) / (g : Int)) = x := by rw [← t1, Int.neg_tdiv, Int.tdiv_eq_ediv_of_nonneg (by omega)]
    clear t1 t2
    go_enter Try.func44, Try.ntmps44
    go_wp2_with fail
    refine (greatestDivisorB_any _ m dn (by omega) (by omega)).mono ?_
    rintro e w1' ⟨rfl, n1⟩
    rw [HG'.out]
    obtain ⟨c0, c1, f0, f1, hs0⟩ := n1.box
    have N1 := Lib.hid (show New w w1' from New.trans ((New.refl w).alloc _) n1); clear n1
    go_wp2
    go_region
    all_goals
      go_wp2
      refine bodyPost_ret (v := .agg #[.int .i64 x, .int .i64 y]) (by simp [results, Try.results44, go_sem, c0, c1]) rfl ?_
      exact ⟨by rw [HR.out], by have := N1.out; (repeat (first | with_reducible exact New.refl _ | with_reducible assumption | refine New.drewN ?_ _ | refine New.drew ?_ | refine New.alloc ?_ _ | refine New.setCell ?_ (by first | omega | (simp; omega) | (simp; done)) _ | (refine New.trans ?_ (by assumption))))⟩
end Go.Proofs.Ytefpnlimkelehaa
