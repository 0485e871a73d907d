/- Ratios of any numbers. -/
import Derived.Test.YtefpnlimkelehaaSal
namespace Go.Proofs.Ytefpnlimkelehaa
open Go.RowKit Go.IntWalk

theorem veCommon_wide (w : World) (a b : Nat) (ha : a ≤ 9223372036854775807) (hb : b ≤ 9223372036854775807) :
    Calls Try.prog 37 #[.int .i64 a, .int .i64 b] w fun e w' => e = .returned (.int .i64 (Nat.gcd a b : Nat)) ∧ New w w' := by
  go_enter Try.func37, Try.ntmps37
  go_wp2
  go_loopw [0, 1] (fun x y wr => ∃ a' b' : Nat, x = .int .i64 a' ∧ y = .int .i64 b' ∧ a' ≤ 9223372036854775807 ∧ b' ≤ 9223372036854775807 ∧ Nat.gcd a' b' = Nat.gcd a b ∧ New w wr) (fun _ y _ => (intOf y).toNat)
  case atStart => exact ⟨a, b, rfl, rfl, ha, hb, rfl, New.refl _⟩
  case round =>
    obtain ⟨a', b', rfl, rfl, h1, h2, hg, hn⟩ := hrel
    have HG := Lib.hid hg; clear hg
    have HN := Lib.hid hn; clear hn
    by_cases h0 : 0 < b'
    · have h3 : (0 : Int) < b' := by omega
      go_wp2
      go_region
      all_goals
        go_wp2
        go_roundw
        case rel => exact ⟨b', a' % b', rfl, by go_num, h2, by have := Nat.mod_lt a' h0; omega, by rw [gcd_step]; exact HG.out, HN.out.drew⟩
        case measure => have hm := Nat.mod_lt a' h0; simp [intOf]; omega
    · obtain rfl : b' = 0 := by omega
      go_wp2
      go_ret
      exact ⟨ret_int (by rw [← HG.out]; simp), HN.out⟩

theorem l1Abs_wide (w : World) (a : Int) (h1 : -9223372036854775807 ≤ a) (h2 : a ≤ 9223372036854775807) :
    Calls Try.prog 38 #[.int .i64 a] w fun e w' => e = .returned (.int .i64 (a.natAbs : Nat)) ∧ w = w' := by
  go_enter Try.func38, Try.ntmps38
  go_wp2_with fail
  refine (l1Most_any _ _ _).mono ?_
  rintro e w1 ⟨rfl, rfl⟩
  go_wp2
  go_ret
  exact ⟨ret_int (by omega), rfl⟩

set_option maxRecDepth 100000 in
theorem saRatio_wide (w : World) (n d : Int) (hd : 0 < d) (h1 : -9223372036854775807 ≤ n) (h2 : n ≤ 9223372036854775807) (h3 : d ≤ 9223372036854775807) :
    Calls Try.prog 23 #[.int .i64 n, .int .i64 d] w fun e w' => e = .returned (.tuple #[ratV (red n d), .bool (sgR (red n d).1 (red n d).2)]) ∧ New w w' := by
  obtain ⟨g, hg⟩ : ∃ g : Nat, g = Int.gcd n d := ⟨_, rfl⟩
  have hgp : 0 < g := by have := gcd_pos (n := n) hd; omega
  have hgd : (g : Int) ≤ d := by
    have h1 := (red_mul n d).2
    have h2 := red_pos (n := n) hd
    rw [← hg] at h1
    have := Int.mul_le_mul_of_nonneg_right (show 1 ≤ (red n d).2 by omega) (show (0 : Int) ≤ g by omega)
    omega
  have t1 : n.tdiv (g : Int) = (red n d).1 := tdiv_red1 (by rw [hg]) (by omega)
  have t2 : d.tdiv (g : Int) = (red n d).2 := tdiv_red2 (by rw [hg]) (by omega)
  have b := red_le (n := n) hd
  have bp := red_pos (n := n) hd
  obtain ⟨x, hx⟩ : ∃ x, x = (red n d).1 := ⟨_, rfl⟩
  obtain ⟨y, hy⟩ : ∃ y, y = (red n d).2 := ⟨_, rfl⟩
  rw [← hx] at t1 b
  rw [← hy] at t2 b bp
  have HR := Lib.hid (show red n d = (x, y) by rw [hx, hy]); clear hx hy
  have bx : -9223372036854775807 ≤ x ∧ x ≤ 9223372036854775807 := by omega
  have by_ : y ≤ 9223372036854775807 := by omega
  clear b
  have HG := Lib.hid hg; clear hg
  have g0 : ¬ (g : Int) = 0 := by omega
  have w1 : IntKind.i64.wrap (n.tdiv (g : Int)) = x := by rw [t1]; exact i64_in _ (by omega)
  have w2 : IntKind.i64.wrap (d.tdiv (g : Int)) = y := by rw [t2]; exact i64_in _ (by omega)
  have e2 : d / (g : Int) = y := by rw [← t2, Int.tdiv_eq_ediv_of_nonneg (by omega)]
  obtain ⟨dn, rfl⟩ : ∃ m : Nat, d = (m : Int) := ⟨d.toNat, by omega⟩
  by_cases hs : 0 ≤ n
  · obtain ⟨m, rfl⟩ : ∃ m : Nat, n = (m : Int) := ⟨n.toNat, by omega⟩
    have e1 : (m : Int) / (g : Int) = x := by rw [← t1, Int.tdiv_eq_ediv_of_nonneg (by omega)]
    have hz : ¬ (-(m : Int) > (m : Int)) := by omega
    have HG' := Lib.hid (show Nat.gcd m dn = g by rw [HG.out]; rfl)
    clear t1 t2
    go_enter Try.func23, Try.ntmps23
    go_wp2_with fail
    refine (l1Abs_wide _ _ (by omega) (by omega)).mono ?_
    rintro e w0' ⟨rfl, rfl⟩
    rw [show ((((m : Int)).natAbs : Nat) : Int) = (m : Int) by omega]
    go_wp2_with fail
    refine (veCommon_wide _ m dn (by omega) (by omega)).mono ?_
    rintro e w1' ⟨rfl, n1⟩
    rw [HG'.out]
    obtain ⟨c0, c1, f0, f1, hs0⟩ := n1.box
    have N1 := Lib.hid (show New w w1' from New.trans ((New.refl w).alloc _) n1); clear n1
    go_wp2
    go_region
    all_goals
      go_upto_region 3 with fail
      obtain ⟨v0, hv0⟩ : ∃ xx : World, xx = (w1'.alloc (.cells #[.int .i64 x, .int .i64 y] 27)).drew := ⟨_, rfl⟩
      rw [← hv0]
      have M0 : New w1' v0 := by rw [hv0]; exact (by repeat (first | with_reducible exact New.refl _ | with_reducible assumption | refine New.drewN ?_ _ | refine New.drew ?_ | refine New.alloc ?_ _ | refine New.setCell ?_ (by first | omega | (simp; omega) | (simp; done)) _ | (refine New.trans ?_ (by assumption))))
      have l0_v0 : v0.cell? ⟨w1'.heap.size, 0, none⟩ = some (.int .i64 x) := by rw [hv0]; exact ((New.refl _).drew).cell (by simp)
      have l1_v0 : v0.cell? ⟨w1'.heap.size, 1, none⟩ = some (.int .i64 y) := by rw [hv0]; exact ((New.refl _).drew).cell (by simp)
      have r0_v0 := M0.cell c0
      have r1_v0 := M0.cell c1
      have zr0_v0 := M0.frz c0 f0
      have zr1_v0 := M0.frz c1 f1
      have N0 := Lib.hid (N1.out.trans M0)
      obtain ⟨B, hB⟩ : ∃ B, B = w1'.heap.size := ⟨_, rfl⟩
      rw [← hB] at hs0 l0_v0 l1_v0 ⊢
      clear M0 hv0 hB c0 c1 f0 f1 w1 w2 e1 e2 HG HG' g0
      go_region_held3 (fun w' => w'.cell? ⟨B, 0, none⟩ = some (.int .i64 x) ∧ w'.cell? ⟨B, 1, none⟩ = some (.int .i64 y))
        (first | with_reducible exact ⟨l0_v0, l1_v0⟩ | with_reducible exact ⟨l0_u1, l1_u1⟩ | with_reducible exact ⟨World.cell_set (World.cell_set (l0_u1) (by simp; try omega)) (by simp; try omega), World.cell_set (World.cell_set (l1_u1) (by simp; try omega)) (by simp; try omega)⟩ | exact ⟨l0_v0, l1_v0⟩ | fail)
        (first
          | (go_at_call 28; refine (saGood_any _ x y).mono ?_; rintro e u1 ⟨rfl, n_u1⟩; (try replace n_u1 := New.undrew n_u1); have l0_u1 : u1.cell? ⟨B, 0, none⟩ = some (.int .i64 x) := n_u1.cell l0_v0; have l1_u1 : u1.cell? ⟨B, 1, none⟩ = some (.int .i64 y) := n_u1.cell l1_v0; have r0_u1 : u1.cell? ⟨w.heap.size, 0, none⟩ = some (.int .i64 0) := n_u1.cell r0_v0; have zr0_u1 : u1.frozen? ⟨w.heap.size, 0, none⟩ = false := n_u1.frz r0_v0 zr0_v0; have r1_u1 : u1.cell? ⟨w.heap.size, 1, none⟩ = some (.int .i64 0) := n_u1.cell r1_v0; have zr1_u1 : u1.frozen? ⟨w.heap.size, 1, none⟩ = false := n_u1.frz r1_v0 zr1_v0;  skip))
      have K_u1 := Lib.hid (show New v0 u1 from n_u1); clear n_u1
      go_wp2
      refine bodyPost_ret (v := .tuple #[ratV (x, y), .bool (sgR x y)]) (by simp [results, Try.results23, go_sem, r0_u1, r1_u1]) rfl ⟨by rw [HR.out], ?_⟩
      have := N0.out.trans K_u1.out
      (repeat (first | with_reducible exact New.refl _ | with_reducible assumption | refine New.drewN ?_ _ | refine New.drew ?_ | refine New.alloc ?_ _ | refine New.setCell ?_ (by first | omega | (simp; omega) | (simp; done)) _ | (refine New.trans ?_ (by assumption))))
  · obtain ⟨m, rfl⟩ : ∃ m : Nat, n = -(m : Int) := ⟨(-n).toNat, by omega⟩
    have hz : -(-(m : Int)) > -(m : Int) := by omega
    have HG' := Lib.hid (show Nat.gcd m dn = g by rw [HG.out]; show _ = Nat.gcd (-(m : Int)).natAbs dn; congr 1; omega)
    have e1 : -((m : Int) / (g : Int)) = x := by rw [← t1, Int.neg_tdiv, Int.tdiv_eq_ediv_of_nonneg (by omega)]
    clear t1 t2
    go_enter Try.func23, Try.ntmps23
    go_wp2_with fail
    refine (l1Abs_wide _ _ (by omega) (by omega)).mono ?_
    rintro e w0' ⟨rfl, rfl⟩
    rw [show (((-(m : Int)).natAbs : Nat) : Int) = (m : Int) by omega]
    go_wp2_with fail
    refine (veCommon_wide _ m dn (by omega) (by omega)).mono ?_
    rintro e w1' ⟨rfl, n1⟩
    rw [HG'.out]
    obtain ⟨c0, c1, f0, f1, hs0⟩ := n1.box
    have N1 := Lib.hid (show New w w1' from New.trans ((New.refl w).alloc _) n1); clear n1
    go_wp2
    go_region
    all_goals
      go_upto_region 3 with fail
      obtain ⟨v0, hv0⟩ : ∃ xx : World, xx = (w1'.alloc (.cells #[.int .i64 x, .int .i64 y] 27)).drew := ⟨_, rfl⟩
      rw [← hv0]
      have M0 : New w1' v0 := by rw [hv0]; exact (by repeat (first | with_reducible exact New.refl _ | with_reducible assumption | refine New.drewN ?_ _ | refine New.drew ?_ | refine New.alloc ?_ _ | refine New.setCell ?_ (by first | omega | (simp; omega) | (simp; done)) _ | (refine New.trans ?_ (by assumption))))
      have l0_v0 : v0.cell? ⟨w1'.heap.size, 0, none⟩ = some (.int .i64 x) := by rw [hv0]; exact ((New.refl _).drew).cell (by simp)
      have l1_v0 : v0.cell? ⟨w1'.heap.size, 1, none⟩ = some (.int .i64 y) := by rw [hv0]; exact ((New.refl _).drew).cell (by simp)
      have r0_v0 := M0.cell c0
      have r1_v0 := M0.cell c1
      have zr0_v0 := M0.frz c0 f0
      have zr1_v0 := M0.frz c1 f1
      have N0 := Lib.hid (N1.out.trans M0)
      obtain ⟨B, hB⟩ : ∃ B, B = w1'.heap.size := ⟨_, rfl⟩
      rw [← hB] at hs0 l0_v0 l1_v0 ⊢
      clear M0 hv0 hB c0 c1 f0 f1 w1 w2 e1 e2 HG HG' g0
      go_region_held3 (fun w' => w'.cell? ⟨B, 0, none⟩ = some (.int .i64 x) ∧ w'.cell? ⟨B, 1, none⟩ = some (.int .i64 y))
        (first | with_reducible exact ⟨l0_v0, l1_v0⟩ | with_reducible exact ⟨l0_u1, l1_u1⟩ | with_reducible exact ⟨World.cell_set (World.cell_set (l0_u1) (by simp; try omega)) (by simp; try omega), World.cell_set (World.cell_set (l1_u1) (by simp; try omega)) (by simp; try omega)⟩ | exact ⟨l0_v0, l1_v0⟩ | fail)
        (first
          | (go_at_call 28; refine (saGood_any _ x y).mono ?_; rintro e u1 ⟨rfl, n_u1⟩; (try replace n_u1 := New.undrew n_u1); have l0_u1 : u1.cell? ⟨B, 0, none⟩ = some (.int .i64 x) := n_u1.cell l0_v0; have l1_u1 : u1.cell? ⟨B, 1, none⟩ = some (.int .i64 y) := n_u1.cell l1_v0; have r0_u1 : u1.cell? ⟨w.heap.size, 0, none⟩ = some (.int .i64 0) := n_u1.cell r0_v0; have zr0_u1 : u1.frozen? ⟨w.heap.size, 0, none⟩ = false := n_u1.frz r0_v0 zr0_v0; have r1_u1 : u1.cell? ⟨w.heap.size, 1, none⟩ = some (.int .i64 0) := n_u1.cell r1_v0; have zr1_u1 : u1.frozen? ⟨w.heap.size, 1, none⟩ = false := n_u1.frz r1_v0 zr1_v0;  skip))
      have K_u1 := Lib.hid (show New v0 u1 from n_u1); clear n_u1
      go_wp2
      refine bodyPost_ret (v := .tuple #[ratV (x, y), .bool (sgR x y)]) (by simp [results, Try.results23, go_sem, r0_u1, r1_u1]) rfl ⟨by rw [HR.out], ?_⟩
      have := N0.out.trans K_u1.out
      (repeat (first | with_reducible exact New.refl _ | with_reducible assumption | refine New.drewN ?_ _ | refine New.drew ?_ | refine New.alloc ?_ _ | refine New.setCell ?_ (by first | omega | (simp; omega) | (simp; done)) _ | (refine New.trans ?_ (by assumption))))
end Go.Proofs.Ytefpnlimkelehaa
