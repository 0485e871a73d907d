/- Ratios in lowest terms: the model's, the program's product with a number. -/
import Derived.Test.YtknkiodpblbecaaRatI
namespace Go.Proofs.Ytknkiodpblbecaa
open Go.RowKit Go.IntWalk

theorem l1Most_any (w : World) (a b : Int) :
    Calls Try.prog 47 #[.int .i64 a, .int .i64 b] w fun e w' => e = .returned (.int .i64 (max a b)) ∧ w = w' := by
  by_cases h : b < a
  · go_enter Try.func47, Try.ntmps47
    go_wp2
    go_ret
    exact ⟨ret_int (by omega), rfl⟩
  · go_enter Try.func47, Try.ntmps47
    go_wp2
    go_ret
    exact ⟨ret_int (by omega), rfl⟩

theorem l1Abs_any (w : World) (a : Int) (h1 : -4611686018427387904 ≤ a) (h2 : a ≤ 4611686018427387904) :
    Calls Try.prog 45 #[.int .i64 a] w fun e w' => e = .returned (.int .i64 (a.natAbs : Nat)) ∧ w = w' := by
  go_enter Try.func45, Try.ntmps45
  go_wp2_with fail
  refine (l1Most_any _ _ _).mono ?_
  rintro e w1 ⟨rfl, rfl⟩
  go_wp2
  go_ret
  exact ⟨ret_int (by omega), rfl⟩

set_option maxRecDepth 100000 in
theorem leRatio_any (w : World) (n d : Int) (hd : 0 < d) (h1 : -4611686018427387904 ≤ n) (h2 : n ≤ 4611686018427387904) (h3 : d ≤ 4611686018427387904) :
    Calls Try.prog 36 #[.int .i64 n, .int .i64 d] w fun e w' => e = .returned (ratV (red n d)) ∧ New w w' := by
  obtain ⟨g, hg⟩ : ∃ g : Nat, g = Int.gcd n d := ⟨_, rfl⟩
  have hgp : 0 < g := by have := gcd_pos (n := n) hd; omega
  have hgd : (g : Int) ≤ d := by
    have h1 := (red_mul n d).2
    have h2 := red_pos (n := n) hd
    rw [← hg] at h1
    have := Int.mul_le_mul_of_nonneg_right (show 1 ≤ (red n d).2 by omega) (show (0 : Int) ≤ g by omega)
    omega
  have t1 : n.tdiv (g : Int) = (red n d).1 := tdiv_red1 (by rw [hg]) (by omega)
  have t2 : d.tdiv (g : Int) = (red n d).2 := tdiv_red2 (by rw [hg]) (by omega)
  have b := red_le (n := n) hd
  have bp := red_pos (n := n) hd
  obtain ⟨x, hx⟩ : ∃ x, x = (red n d).1 := ⟨_, rfl⟩
  obtain ⟨y, hy⟩ : ∃ y, y = (red n d).2 := ⟨_, rfl⟩
  rw [← hx] at t1 b
  rw [← hy] at t2 b bp
  have HR := Lib.hid (show red n d = (x, y) by rw [hx, hy]); clear hx hy
  have bx : -4611686018427387904 ≤ x ∧ x ≤ 4611686018427387904 := by omega
  have by_ : y ≤ 4611686018427387904 := by omega
  clear b
  have HG := Lib.hid hg; clear hg
  have g0 : ¬ (g : Int) = 0 := by omega
  have w1 : IntKind.i64.wrap (n.tdiv (g : Int)) = x := by rw [t1]; exact i64_in _ (by omega)
  have w2 : IntKind.i64.wrap (d.tdiv (g : Int)) = y := by rw [t2]; exact i64_in _ (by omega)
  have e2 : d / (g : Int) = y := by rw [← t2, Int.tdiv_eq_ediv_of_nonneg (by omega)]
  obtain ⟨dn, rfl⟩ : ∃ m : Nat, d = (m : Int) := ⟨d.toNat, by omega⟩
  by_cases hs : 0 ≤ n
  · obtain ⟨m, rfl⟩ : ∃ m : Nat, n = (m : Int) := ⟨n.toNat, by omega⟩
    have e1 : (m : Int) / (g : Int) = x := by rw [← t1, Int.tdiv_eq_ediv_of_nonneg (by omega)]
    have hz : ¬ (-(m : Int) > (m : Int)) := by omega
    have HG' := Lib.hid (show Nat.gcd m dn = g by rw [HG.out]; rfl)
    clear t1 t2
    go_enter Try.func36, Try.ntmps36
    go_wp2_with fail
    refine (l1Abs_any _ _ (by omega) (by omega)).mono ?_
    rintro e w0' ⟨rfl, rfl⟩
    rw [show ((((m : Int)).natAbs : Nat) : Int) = (m : Int) by omega]
    go_wp2_with fail
    refine (veCommonB_any _ m dn (by omega) (by omega)).mono ?_
    rintro e w1' ⟨rfl, n1⟩
    rw [HG'.out]
    obtain ⟨c0, c1, f0, f1, hs0⟩ := n1.box
    have N1 := Lib.hid (show New w w1' from New.trans ((New.refl w).alloc _) n1); clear n1
    go_wp2
    go_region
    all_goals
      go_wp2
      refine bodyPost_ret (v := .agg #[.int .i64 x, .int .i64 y]) (by simp [results, Try.results36, go_sem, c0, c1]) rfl ?_
      exact ⟨by rw [HR.out], by have := N1.out; (repeat (first | with_reducible exact New.refl _ | with_reducible assumption | refine New.drewN ?_ _ | refine New.drew ?_ | refine New.alloc ?_ _ | refine New.setCell ?_ (by first | omega | (simp; omega) | (simp; done)) _ | (refine New.trans ?_ (by assumption))))⟩
  · obtain ⟨m, rfl⟩ : ∃ m : Nat, n = -(m : Int) := ⟨(-n).toNat, by omega⟩
    have hz : -(-(m : Int)) > -(m : Int) := by omega
    have HG' := Lib.hid (show Nat.gcd m dn = g by rw [HG.out]; show _ = Nat.gcd (-(m : Int)).natAbs dn; congr 1; omega)
    have e1 : -((m : Int) / (g : Int)) = x := by rw [← t1, Int.neg_tdiv, Int.tdiv_eq_ediv_of_nonneg (by omega)]
    clear t1 t2
    go_enter Try.func36, Try.ntmps36
    go_wp2_with fail
    refine (l1Abs_any _ _ (by omega) (by omega)).mono ?_
    rintro e w0' ⟨rfl, rfl⟩
    rw [show (((-(m : Int)).natAbs : Nat) : Int) = (m : Int) by omega]
    go_wp2_with fail
    refine (veCommonB_any _ m dn (by omega) (by omega)).mono ?_
    rintro e w1' ⟨rfl, n1⟩
    rw [HG'.out]
    obtain ⟨c0, c1, f0, f1, hs0⟩ := n1.box
    have N1 := Lib.hid (show New w w1' from New.trans ((New.refl w).alloc _) n1); clear n1
    go_wp2
    go_region
    all_goals
      go_wp2
      refine bodyPost_ret (v := .agg #[.int .i64 x, .int .i64 y]) (by simp [results, Try.results36, go_sem, c0, c1]) rfl ?_
      exact ⟨by rw [HR.out], by have := N1.out; (repeat (first | with_reducible exact New.refl _ | with_reducible assumption | refine New.drewN ?_ _ | refine New.drew ?_ | refine New.alloc ?_ _ | refine New.setCell ?_ (by first | omega | (simp; omega) | (simp; done)) _ | (refine New.trans ?_ (by assumption))))⟩

theorem pair_kept {W W' : World} {p q : Addr} {x y : Value} (n1 : New W W') (hc : W.cell? p = some x ∧ W.cell? q = some y ∧ W.frozen? p = false ∧ W.frozen? q = false) :
    W'.cell? p = some x ∧ W'.cell? q = some y ∧ W'.frozen? p = false ∧ W'.frozen? q = false :=
  ⟨n1.cell hc.1, n1.cell hc.2.1, n1.frz hc.1 hc.2.2.1, n1.frz hc.2.1 hc.2.2.2⟩

set_option maxRecDepth 100000 in
theorem times_any (w : World) (a b k : Int) (hb : 0 < b) (h1 : -4000000000000000000 ≤ a * k) (h2 : a * k ≤ 4000000000000000000) (h3 : b ≤ 4000000000000000000) :
    Calls Try.prog 38 #[ratV (a, b), .int .i64 k] w fun e w' => e = .returned (ratV (red (a * k) b)) ∧ New w w' := by
  go_enter Try.func38, Try.ntmps38
  go_wp2_with fail
  refine (ratioOf_any _ _ _ hb (by omega) (by omega) (by omega)).mono ?_
  rintro e w1 ⟨rfl, n1⟩
  obtain ⟨c0, c1, f0, f1⟩ := pair_kept (p := ⟨w.heap.size + 1, 0, none⟩) (q := ⟨w.heap.size + 1, 1, none⟩) (x := .int .i64 0) (y := .int .i64 0) n1 (by simp [go_sem])
  have N1 := Lib.hid (show New w w1 from New.trans (by repeat (first | with_reducible exact New.refl _ | with_reducible assumption | refine New.drewN ?_ _ | refine New.drew ?_ | refine New.alloc ?_ _ | refine New.setCell ?_ (by first | omega | (simp; omega) | (simp; done)) _ | (refine New.trans ?_ (by assumption)))) n1); clear n1
  obtain ⟨p, hp⟩ : ∃ p, p = red (a * k) b := ⟨_, rfl⟩
  rw [← hp]
  have HP := Lib.hid hp; clear hp
  go_wp2
  refine bodyPost_ret (v := ratV p) (by simp [results, Try.results38, go_sem, c0, c1]) rfl ⟨by rw [HP.out], ?_⟩
  have := N1.out
  (repeat (first | with_reducible exact New.refl _ | with_reducible assumption | refine New.drewN ?_ _ | refine New.drew ?_ | refine New.alloc ?_ _ | refine New.setCell ?_ (by first | omega | (simp; omega) | (simp; done)) _ | (refine New.trans ?_ (by assumption))))

end Go.Proofs.Ytknkiodpblbecaa
