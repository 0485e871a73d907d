/- The model's ratios in lowest terms. -/
import Derived.Test.YtlhpkpfnaepgbaaRatI
import Derived.Test.YtlhpkpfnaepgbaaTkB
namespace Go.Proofs.Ytlhpkpfnaepgbaa
open Go.RowKit Go.IntWalk

theorem l1Most_any (w : World) (a b : Int) :
    Calls Try.prog 69 #[.int .i64 a, .int .i64 b] w fun e w' => e = .returned (.int .i64 (max a b)) ∧ w = w' := by
  by_cases h : b < a
  · go_enter Try.func69, Try.ntmps69
    go_wp2
    go_ret
    exact ⟨ret_int (by omega), rfl⟩
  · go_enter Try.func69, Try.ntmps69
    go_wp2
    go_ret
    exact ⟨ret_int (by omega), rfl⟩
theorem l1Abs_any (w : World) (a : Int) (h1 : -4611686018427387904 ≤ a) (h2 : a ≤ 4611686018427387904) :
    Calls Try.prog 60 #[.int .i64 a] w fun e w' => e = .returned (.int .i64 (a.natAbs : Nat)) ∧ w = w' := by
  go_enter Try.func60, Try.ntmps60
  go_wp2_with fail
  refine (l1Most_any _ _ _).mono ?_
  rintro e w1 ⟨rfl, rfl⟩
  go_wp2
  go_ret
  exact ⟨ret_int (by omega), rfl⟩

set_option maxRecDepth 100000 in
theorem leRatio_any (w : World) (n d : Int) (hd : 0 < d) (h1 : -4611686018427387904 ≤ n) (h2 : n ≤ 4611686018427387904) (h3 : d ≤ 4611686018427387904) :
    Calls Try.prog 50 #[.int .i64 n, .int .i64 d] w fun e w' => e = .returned (ratV (red n d)) ∧ New w w' := by
  obtain ⟨g, hg⟩ : ∃ g : Nat, g = Int.gcd n d := ⟨_, rfl⟩
  have hgp : 0 < g := by have := gcd_pos (n := n) hd; omega
  have hgd : (g : Int) ≤ d := by
    have h1 := (red_mul n d).2
    have h2 := red_pos (n := n) hd
    rw [← hg] at h1
    have := Int.mul_le_mul_of_nonneg_right (show 1 ≤ (red n d).2 by omega) (show (0 : Int) ≤ g by omega)
    omega
  have t1 : n.tdiv (g : Int) = (red n d).1 := tdiv_red1 (by rw [hg]) (by omega)
  have t2 : d.tdiv (g : Int) = (red n d).2 := tdiv_red2 (by rw [hg]) (by omega)
  have b := red_le (n := n) hd
  have bp := red_pos (n := n) hd
  obtain ⟨x, hx⟩ : ∃ x, x = (red n d).1 := ⟨_, rfl⟩
  obtain ⟨y, hy⟩ : ∃ y, y = (red n d).2 := ⟨_, rfl⟩
  rw [← hx] at t1 b
  rw [← hy] at t2 b bp
  have HR := Lib.hid (show red n d = (x, y) by rw [hx, hy]); clear hx hy
  have bx : -4611686018427387904 ≤ x ∧ x ≤ 4611686018427387904 := by omega
  have by_ : y ≤ 4611686018427387904 := by omega
  clear b
  have HG := Lib.hid hg; clear hg
  have g0 : ¬ (g : Int) = 0 := by omega
  have w1 : IntKind.i64.wrap (n.tdiv (g : Int)) = x := by rw [t1]; exact i64_in _ (by omega)
  have w2 : IntKind.i64.wrap (d.tdiv (g : Int)) = y := by rw [t2]; exact i64_in _ (by omega)
  have e2 : d / (g : Int) = y := by rw [← t2, Int.tdiv_eq_ediv_of_nonneg (by omega)]
  obtain ⟨dn, rfl⟩ : ∃ m : Nat, d = (m : Int) := ⟨d.toNat, by omega⟩
  by_cases hs : 0 ≤ n
  · obtain ⟨m, rfl⟩ : ∃ m : Nat, n = (m : Int) := ⟨n.toNat, by omega⟩
    have e1 : (m : Int) / (g : Int) = x := by rw [← t1, Int.tdiv_eq_ediv_of_nonneg (by omega)]
    have hz : ¬ (-(m : Int) > (m : Int)) := by omega
    have HG' := Lib.hid (show Nat.gcd m dn = g by rw [HG.out]; rfl)
    clear t1 t2
    go_enter Try.func50, Try.ntmps50
    go_wp2_with fail
    refine (l1Abs_any _ _ (by omega) (by omega)).mono ?_
    rintro e w0' ⟨rfl, rfl⟩
    rw [show ((((m : Int)).natAbs : Nat) : Int) = (m : Int) by omega]
    go_wp2_with fail
    refine (veCommonB_any _ m dn (by omega) (by omega)).mono ?_
    rintro e w1' ⟨rfl, n1⟩
    rw [HG'.out]
    obtain ⟨c0, c1, f0, f1, hs0⟩ := n1.box
    have N1 := Lib.hid (show New w w1' from New.trans ((New.refl w).alloc _) n1); clear n1
    go_wp2
    go_region
    all_goals
      go_wp2
      refine bodyPost_ret (v := .agg #[.int .i64 x, .int .i64 y]) (by simp [results, Try.results50, go_sem, c0, c1]) rfl ?_
      exact ⟨by rw [HR.out], by have := N1.out; (repeat (first | with_reducible exact New.refl _ | with_reducible assumption | refine New.drewN ?_ _ | refine New.drew ?_ | refine New.alloc ?_ _ | refine New.setCell ?_ (by first | omega | (simp; omega) | (simp; done)) _ | (refine New.trans ?_ (by assumption))))⟩
  · obtain ⟨m, rfl⟩ : ∃ m : Nat, n = -(m : Int) := ⟨(-n).toNat, by omega⟩
    have hz : -(-(m : Int)) > -(m : Int) := by omega
    have HG' := Lib.hid (show Nat.gcd m dn = g by rw [HG.out]; show _ = Nat.gcd (-(m : Int)).natAbs dn; congr 1; omega)
    have e1 : -((m : Int) / (g : Int)) = x := by rw [← t1, Int.neg_tdiv, Int.tdiv_eq_ediv_of_nonneg (by omega)]
    clear t1 t2
    go_enter Try.func50, Try.ntmps50
    go_wp2_with fail
    refine (l1Abs_any _ _ (by omega) (by omega)).mono ?_
    rintro e w0' ⟨rfl, rfl⟩
    rw [show (((-(m : Int)).natAbs : Nat) : Int) = (m : Int) by omega]
    go_wp2_with fail
    refine (veCommonB_any _ m dn (by omega) (by omega)).mono ?_
    rintro e w1' ⟨rfl, n1⟩
    rw [HG'.out]
    obtain ⟨c0, c1, f0, f1, hs0⟩ := n1.box
    have N1 := Lib.hid (show New w w1' from New.trans ((New.refl w).alloc _) n1); clear n1
    go_wp2
    go_region
    all_goals
      go_wp2
      refine bodyPost_ret (v := .agg #[.int .i64 x, .int .i64 y]) (by simp [results, Try.results50, go_sem, c0, c1]) rfl ?_
      exact ⟨by rw [HR.out], by have := N1.out; (repeat (first | with_reducible exact New.refl _ | with_reducible assumption | refine New.drewN ?_ _ | refine New.drew ?_ | refine New.alloc ?_ _ | refine New.setCell ?_ (by first | omega | (simp; omega) | (simp; done)) _ | (refine New.trans ?_ (by assumption))))⟩

/-- What a tank has at a level, in lowest terms. -/
def upR (n d : Int) (t : Tk) : Int × Int := red (upTo n d t) d
theorem upR_zero {n d : Int} {t : Tk} (hd : 0 < d) (h : n ≤ t.2.1 * d) : upR n d t = (0, 1) := by
  unfold upR upTo
  rw [Int.max_eq_left (by omega), Int.mul_zero]
  exact red_unique hd (by omega) (by decide) (by omega)
set_option maxRecDepth 100000 in
theorem leUp_any (w : World) (a f u n d : Int) (ht : TkOk (a, f, u)) (hp : LvBd (n, d)) :
    Calls Try.prog 41 #[tkV a f u, ratV (n, d)] w fun e w' => e = .returned (ratV (upR n d (a, f, u))) ∧ New w w' := by
  have hb := upTo_bd ht hp
  have h1 := mul_bd ht.f1 ht.f2 (show 0 ≤ d by have := hp.d0; simp only at this; omega) hp.d1
  have r1 := hp.n0; have r2 := hp.n1; have r3 := hp.d0; have r4 := hp.d1
  simp only at h1 r1 r2 r3 r4 hb
  obtain ⟨h1a, h1b⟩ := h1
  by_cases hz : n ≤ f * d
  · have HZ := Lib.hid (upR_zero (n := n) (d := d) (t := (a, f, u)) (by omega) hz)
    clear hb ht hp
    go_enter Try.func41, Try.ntmps41
    go_wp2
    refine bodyPost_ret (v := ratV (0, 1)) (by simp [results, Try.results41, go_sem]) rfl ⟨by rw [HZ.out], ?_⟩
    (repeat (first | with_reducible exact New.refl _ | with_reducible assumption | refine New.drewN ?_ _ | refine New.drew ?_ | refine New.alloc ?_ _ | refine New.setCell ?_ (by first | omega | (simp; omega) | (simp; done)) _ | (refine New.trans ?_ (by assumption))))
  · have e0 : upTo n d (a, f, u) = a * (n - f * d) := by unfold upTo; simp only; rw [Int.max_eq_right (by omega)]
    have HE := Lib.hid (show upR n d (a, f, u) = red (a * (n - f * d)) d by unfold upR; rw [e0])
    rw [e0] at hb
    obtain ⟨hb1, hb2⟩ := hb
    clear e0 ht hp
    go_enter Try.func41, Try.ntmps41
    go_wp2_with fail
    refine (leRatio_any _ _ _ (by omega) (by omega) (by omega) (by omega)).mono ?_
    rintro e w1 ⟨rfl, n1⟩
    obtain ⟨c0, c1, f0, f1⟩ := pair_kept (p := ⟨w.heap.size + 1 + 1, 0, none⟩) (q := ⟨w.heap.size + 1 + 1, 1, none⟩) (x := .int .i64 0) (y := .int .i64 0) n1 (by simp [go_sem])
    have N1 := Lib.hid (show New w w1 from New.trans (by repeat (first | with_reducible exact New.refl _ | with_reducible assumption | refine New.drewN ?_ _ | refine New.drew ?_ | refine New.alloc ?_ _ | refine New.setCell ?_ (by first | omega | (simp; omega) | (simp; done)) _ | (refine New.trans ?_ (by assumption)))) n1); clear n1
    obtain ⟨p, hp⟩ : ∃ p, p = red (a * (n - f * d)) d := ⟨_, rfl⟩
    rw [← hp]
    have HP := Lib.hid hp; clear hp
    go_wp2
    refine bodyPost_ret (v := ratV p) (by simp [results, Try.results41, go_sem, c0, c1]) rfl ⟨by rw [HE.out, HP.out], ?_⟩
    have := N1.out
    (repeat (first | with_reducible exact New.refl _ | with_reducible assumption | refine New.drewN ?_ _ | refine New.drew ?_ | refine New.alloc ?_ _ | refine New.setCell ?_ (by first | omega | (simp; omega) | (simp; done)) _ | (refine New.trans ?_ (by assumption))))
end Go.Proofs.Ytlhpkpfnaepgbaa
