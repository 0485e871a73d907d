/- Blends: the least amounts, the program's. -/
import Derived.Test.YtefpnlimkelehaaSal
namespace Go.Proofs.Ytefpnlimkelehaa
open Go.RowKit Go.IntWalk

theorem gcd_parts {u v : Nat} (hu : 0 < u) : u = u / Nat.gcd u v * Nat.gcd u v ∧ v = v / Nat.gcd u v * Nat.gcd u v ∧ Nat.gcd (u / Nat.gcd u v) (v / Nat.gcd u v) = 1 ∧ 0 < Nat.gcd u v := by
  have hg : 0 < Nat.gcd u v := Nat.gcd_pos_of_pos_left _ hu
  refine ⟨(Nat.div_mul_cancel (Nat.gcd_dvd_left _ _)).symm, (Nat.div_mul_cancel (Nat.gcd_dvd_right _ _)).symm, ?_, hg⟩
  rw [Nat.gcd_div (Nat.gcd_dvd_left _ _) (Nat.gcd_dvd_right _ _), Nat.div_self hg]
theorem pos_part {u x g : Nat} (hu : 0 < u) (h : u = x * g) : 0 < x := by
  rcases Nat.eq_zero_or_pos x with e | e
  · subst e; omega
  · exact e
theorem cop_sub {a b a' b' : Nat} (h : Nat.gcd a b = 1) (ha : a' ∣ a) (hb : b' ∣ b) : Nat.gcd a' b' = 1 :=
  Nat.Coprime.coprime_dvd_left ha (Nat.Coprime.coprime_dvd_right hb h)
theorem least4 {a b c d g1 g2 g3 g4 a1 a2 b1 b2 c1 c2 d1 d2 : Nat} (h1 : a = a1 * g1) (h1' : c = c1 * g1) (k1 : Nat.gcd a1 c1 = 1) (h2 : a1 = a2 * g2) (h2' : d = d1 * g2) (k2 : Nat.gcd a2 d1 = 1)
    (h3 : b = b1 * g3) (h3' : c1 = c2 * g3) (k3 : Nat.gcd b1 c2 = 1) (h4 : b1 = b2 * g4) (h4' : d1 = d2 * g4) (k4 : Nat.gcd b2 d2 = 1) (hc : 0 < c) (hd : 0 < d) :
    red ((a : Int) * (b : Int)) ((c : Int) * (d : Int)) = ((a2 : Int) * (b2 : Int), (c2 : Int) * (d2 : Int)) := by
  have pc := pos_part (pos_part hc h1') h3'
  have pd := pos_part (pos_part hd h2') h4'
  have hcop : Nat.gcd (a2 * b2) (c2 * d2) = 1 := by
    refine Nat.Coprime.mul_left (Nat.Coprime.mul_right ?_ ?_) (Nat.Coprime.mul_right ?_ ?_)
    · exact cop_sub k1 ⟨_, h2⟩ ⟨_, h3'⟩
    · exact cop_sub k2 (Nat.dvd_refl _) ⟨_, h4'⟩
    · exact cop_sub k3 ⟨_, h4⟩ (Nat.dvd_refl _)
    · exact k4
  refine red_unique (Int.mul_pos (by omega) (by omega)) (Int.mul_pos (by omega) (by omega)) ?_ ?_
  · rw [← Int.natCast_mul, ← Int.natCast_mul]; exact hcop
  · subst h1 h1' h2' h3 h2 h3' h4 h4'
    push_cast
    grind

/-- Amounts that are not too great. -/
def capP (p : Int × Int) : Bool := decide (p.1 ≤ 1000000000) && decide (p.2 ≤ 1000000000)
def capX (p : Int × Int) : Int × Int := if capP p = true then p else (0, 0)

theorem lowest_any (w : World) (a b : Nat) (ha : 0 < a) (_hb : 0 < b) (h1 : a ≤ 4611686018427387904) (h2 : b ≤ 4611686018427387904) :
    Calls Try.prog 40 #[.int .i64 (a : Int), .int .i64 (b : Int)] w fun e w' => e = .returned (.tuple #[.int .i64 ((a / Nat.gcd a b : Nat) : Int), .int .i64 ((b / Nat.gcd a b : Nat) : Int)]) ∧ New w w' := by
  obtain ⟨g, hg⟩ : ∃ g, g = Nat.gcd a b := ⟨_, rfl⟩
  have hp : 0 < g := by rw [hg]; exact Nat.gcd_pos_of_pos_left _ ha
  have HG := Lib.hid (show Nat.gcd a b = g from hg.symm); clear hg
  have g0 : ¬ (g : Int) = 0 := by omega
  have q1 := Nat.div_le_self a g
  have q2 := Nat.div_le_self b g
  rw [HG.out]
  obtain ⟨x, hx⟩ : ∃ x, x = a / g := ⟨_, rfl⟩
  obtain ⟨y, hy⟩ : ∃ y, y = b / g := ⟨_, rfl⟩
  rw [← hx] at q1 ⊢
  rw [← hy] at q2 ⊢
  have w1' : IntKind.i64.wrap ((a : Int).tdiv (g : Int)) = (x : Int) := by rw [Int.tdiv_eq_ediv_of_nonneg (by omega), ← Int.natCast_ediv, ← hx]; exact i64_in _ (by omega)
  have w2' : IntKind.i64.wrap ((b : Int).tdiv (g : Int)) = (y : Int) := by rw [Int.tdiv_eq_ediv_of_nonneg (by omega), ← Int.natCast_ediv, ← hy]; exact i64_in _ (by omega)
  have e1 : (a : Int) / (g : Int) = (x : Int) := by rw [← Int.natCast_ediv, ← hx]
  have e2 : (b : Int) / (g : Int) = (y : Int) := by rw [← Int.natCast_ediv, ← hy]
  clear hx hy
  go_enter Try.func40, Try.ntmps40
  go_wp2_with fail
  refine (greatestDivisorB_any _ a b h1 h2).mono ?_
  rintro e w1 ⟨rfl, n1⟩
  rw [HG.out]
  have N1 := Lib.hid (show New w w1 from New.trans (by repeat (first | with_reducible exact New.refl _ | with_reducible assumption | refine New.drewN ?_ _ | refine New.drew ?_ | refine New.alloc ?_ _ | refine New.setCell ?_ (by first | omega | (simp; omega) | (simp; done)) _ | (refine New.trans ?_ (by assumption)))) n1); clear n1
  go_wp2
  go_region
  all_goals
    go_wp2
    go_ret2
    exact ⟨rfl, by have := N1.out; (repeat (first | with_reducible exact New.refl _ | with_reducible assumption | refine New.drewN ?_ _ | refine New.drew ?_ | refine New.alloc ?_ _ | refine New.setCell ?_ (by first | omega | (simp; omega) | (simp; done)) _ | (refine New.trans ?_ (by assumption))))⟩

set_option maxRecDepth 100000 in
set_option maxHeartbeats 1000000 in
theorem leastAmounts_any (w : World) (a b c d : Nat) (ha : 0 < a) (hb : 0 < b) (hc : 0 < c) (hd : 0 < d) (h1 : a ≤ 4611686018427387904) (h2 : b ≤ 4611686018427387904) (h3 : c ≤ 4611686018427387904) (h4 : d ≤ 4611686018427387904) :
    Calls Try.prog 29 #[.int .i64 (a : Int), .int .i64 (b : Int), .int .i64 (c : Int), .int .i64 (d : Int)] w fun e w' => e = .returned (.tuple #[.int .i64 (capX (red ((a : Int) * (b : Int)) ((c : Int) * (d : Int)))).1, .int .i64 (capX (red ((a : Int) * (b : Int)) ((c : Int) * (d : Int)))).2, .bool (capP (red ((a : Int) * (b : Int)) ((c : Int) * (d : Int))))]) ∧ New w w' := by
  obtain ⟨s1, s1', c1, p1⟩ := gcd_parts (u := a) (v := c) ha
  obtain ⟨a1, ha1⟩ : ∃ x, x = a / Nat.gcd a c := ⟨_, rfl⟩
  obtain ⟨c1', hc1⟩ : ∃ x, x = c / Nat.gcd a c := ⟨_, rfl⟩
  have l1 := Nat.div_le_self a (Nat.gcd a c); have l1' := Nat.div_le_self c (Nat.gcd a c)
  rw [← ha1] at s1 c1 l1
  rw [← hc1] at s1' c1 l1'
  have pa1 := pos_part ha s1; have pc1 := pos_part hc s1'
  obtain ⟨s2, s2', c2, p2⟩ := gcd_parts (u := a1) (v := d) pa1
  obtain ⟨a2, ha2⟩ : ∃ x, x = a1 / Nat.gcd a1 d := ⟨_, rfl⟩
  obtain ⟨d1, hd1⟩ : ∃ x, x = d / Nat.gcd a1 d := ⟨_, rfl⟩
  have l2 := Nat.div_le_self a1 (Nat.gcd a1 d); have l2' := Nat.div_le_self d (Nat.gcd a1 d)
  rw [← ha2] at s2 c2 l2
  rw [← hd1] at s2' c2 l2'
  have pa2 := pos_part pa1 s2; have pd1 := pos_part hd s2'
  obtain ⟨s3, s3', c3, p3⟩ := gcd_parts (u := b) (v := c1') hb
  obtain ⟨b1, hb1⟩ : ∃ x, x = b / Nat.gcd b c1' := ⟨_, rfl⟩
  obtain ⟨c2', hc2⟩ : ∃ x, x = c1' / Nat.gcd b c1' := ⟨_, rfl⟩
  have l3 := Nat.div_le_self b (Nat.gcd b c1'); have l3' := Nat.div_le_self c1' (Nat.gcd b c1')
  rw [← hb1] at s3 c3 l3
  rw [← hc2] at s3' c3 l3'
  have pb1 := pos_part hb s3; have pc2 := pos_part pc1 s3'
  obtain ⟨s4, s4', c4, p4⟩ := gcd_parts (u := b1) (v := d1) pb1
  obtain ⟨b2, hb2⟩ : ∃ x, x = b1 / Nat.gcd b1 d1 := ⟨_, rfl⟩
  obtain ⟨d2, hd2⟩ : ∃ x, x = d1 / Nat.gcd b1 d1 := ⟨_, rfl⟩
  have l4 := Nat.div_le_self b1 (Nat.gcd b1 d1); have l4' := Nat.div_le_self d1 (Nat.gcd b1 d1)
  rw [← hb2] at s4 c4 l4
  rw [← hd2] at s4' c4 l4'
  have pb2 := pos_part pb1 s4; have pd2 := pos_part pd1 s4'
  have HR := Lib.hid (least4 s1 s1' c1 s2 s2' c2 s3 s3' c3 s4 s4' c4 hc hd)
  clear s1 s1' c1 s2 s2' c2 s3 s3' c3 s4 s4' c4 p1 p2 p3 p4
  have A1 := Lib.hid ha1; have C1 := Lib.hid hc1; have A2 := Lib.hid ha2; have D1 := Lib.hid hd1
  have B1 := Lib.hid hb1; have C2 := Lib.hid hc2; have B2 := Lib.hid hb2; have D2 := Lib.hid hd2
  clear ha1 hc1 ha2 hd1 hb1 hc2 hb2 hd2
  rw [HR.out]
  clear HR
  go_enter Try.func29, Try.ntmps29
  go_wp2_with fail
  refine (lowest_any _ a c ha hc h1 h3).mono ?_
  rintro e w1 ⟨rfl, n1⟩
  rw [← A1.out, ← C1.out]
  go_wp2_with fail
  refine (lowest_any _ a1 d pa1 hd (by omega) h4).mono ?_
  rintro e w2 ⟨rfl, n2⟩
  rw [← A2.out, ← D1.out]
  replace n2 := n1.trans n2; clear n1
  go_wp2_with fail
  refine (lowest_any _ b c1' hb pc1 h2 (by omega)).mono ?_
  rintro e w3 ⟨rfl, n3⟩
  rw [← B1.out, ← C2.out]
  replace n3 := n2.trans n3; clear n2
  go_wp2_with fail
  refine (lowest_any _ b1 d1 pb1 pd1 (by omega) (by omega)).mono ?_
  rintro e w4 ⟨rfl, n4⟩
  rw [← B2.out, ← D2.out]
  have N4 := Lib.hid (show New w w4 from n3.trans n4); clear n3 n4
  clear A1 C1 A2 D1 B1 C2 B2 D2
  obtain ⟨q, hq⟩ : ∃ x, x = 1000000000 / b2 := ⟨_, rfl⟩
  obtain ⟨r, hr⟩ : ∃ x, x = 1000000000 / d2 := ⟨_, rfl⟩
  have ql := Nat.div_le_self 1000000000 b2
  have rl := Nat.div_le_self 1000000000 d2
  rw [← hq] at ql
  rw [← hr] at rl
  have iq : a2 ≤ q ↔ a2 * b2 ≤ 1000000000 := by rw [hq]; exact Nat.le_div_iff_mul_le pb2
  have ir : c2' ≤ r ↔ c2' * d2 ≤ 1000000000 := by rw [hr]; exact Nat.le_div_iff_mul_le pd2
  have e1 : (1000000000 : Int) / (b2 : Int) = (q : Int) := by rw [hq, Int.natCast_ediv]; rfl
  have e2 : (1000000000 : Int) / (d2 : Int) = (r : Int) := by rw [hr, Int.natCast_ediv]; rfl
  have b0 : ¬ (b2 : Int) = 0 := by omega
  have d0 : ¬ (d2 : Int) = 0 := by omega
  clear hq hr
  by_cases g1 : a2 ≤ q
  · by_cases g2 : c2' ≤ r
    · have m1 := iq.1 g1
      have m2 := ir.1 g2
      have HC := Lib.hid (show capP ((a2 : Int) * (b2 : Int), (c2' : Int) * (d2 : Int)) = true by unfold capP; simp; omega)
      have HX := Lib.hid (show capX ((a2 : Int) * (b2 : Int), (c2' : Int) * (d2 : Int)) = ((a2 : Int) * (b2 : Int), (c2' : Int) * (d2 : Int)) by unfold capX; rw [if_pos HC.out])
      have m1' : (a2 : Int) * (b2 : Int) ≤ 1000000000 := by omega
      have m2' : (c2' : Int) * (d2 : Int) ≤ 1000000000 := by omega
      have m3 : 0 ≤ (a2 : Int) * (b2 : Int) := by omega
      have m4 : 0 ≤ (c2' : Int) * (d2 : Int) := by omega
      have g1' : ¬ (a2 : Int) > (q : Int) := by omega
      have g2' : ¬ (c2' : Int) > (r : Int) := by omega
      clear iq ir m1 m2 g1 g2
      go_wp2
      refine bodyPost_ret (v := .tuple #[.int .i64 ((a2 : Int) * (b2 : Int)), .int .i64 ((c2' : Int) * (d2 : Int)), .bool true]) (by simp [results, Try.results29, go_sem]) rfl ⟨by rw [HX.out, HC.out], ?_⟩
      have := N4.out
      (repeat (first | with_reducible exact New.refl _ | with_reducible assumption | refine New.drewN ?_ _ | refine New.drew ?_ | refine New.alloc ?_ _ | refine New.setCell ?_ (by first | omega | (simp; omega) | (simp; done)) _ | (refine New.trans ?_ (by assumption))))
    · have HC := Lib.hid (show capP ((a2 : Int) * (b2 : Int), (c2' : Int) * (d2 : Int)) = false by unfold capP; simp; have := ir; omega)
      have HX := Lib.hid (show capX ((a2 : Int) * (b2 : Int), (c2' : Int) * (d2 : Int)) = (0, 0) by unfold capX; rw [HC.out]; rfl)
      have g1' : ¬ (a2 : Int) > (q : Int) := by omega
      have g2' : (c2' : Int) > (r : Int) := by omega
      clear iq ir g1 g2
      go_wp2
      refine bodyPost_ret (v := .tuple #[.int .i64 (0), .int .i64 (0), .bool false]) (by simp [results, Try.results29, go_sem]) rfl ⟨by rw [HX.out, HC.out], ?_⟩
      have := N4.out
      (repeat (first | with_reducible exact New.refl _ | with_reducible assumption | refine New.drewN ?_ _ | refine New.drew ?_ | refine New.alloc ?_ _ | refine New.setCell ?_ (by first | omega | (simp; omega) | (simp; done)) _ | (refine New.trans ?_ (by assumption))))
  · have HC := Lib.hid (show capP ((a2 : Int) * (b2 : Int), (c2' : Int) * (d2 : Int)) = false by unfold capP; simp; have := iq; omega)
    have HX := Lib.hid (show capX ((a2 : Int) * (b2 : Int), (c2' : Int) * (d2 : Int)) = (0, 0) by unfold capX; rw [HC.out]; rfl)
    have g1' : (a2 : Int) > (q : Int) := by omega
    clear iq ir g1
    go_wp2
    refine bodyPost_ret (v := .tuple #[.int .i64 (0), .int .i64 (0), .bool false]) (by simp [results, Try.results29, go_sem]) rfl ⟨by rw [HX.out, HC.out], ?_⟩
    have := N4.out
    (repeat (first | with_reducible exact New.refl _ | with_reducible assumption | refine New.drewN ?_ _ | refine New.drew ?_ | refine New.alloc ?_ _ | refine New.setCell ?_ (by first | omega | (simp; omega) | (simp; done)) _ | (refine New.trans ?_ (by assumption))))

theorem partsBetween_any (w : World) (a b c d : Int) (h1 : -1000000000000000000 ≤ a * d) (h2 : a * d ≤ 1000000000000000000) (h3 : -1000000000000000000 ≤ c * b) (h4 : c * b ≤ 1000000000000000000) :
    Calls Try.prog 30 #[ratV (a, b), ratV (c, d)] w fun e w' => e = .returned (.int .i64 ((a * d - c * b).natAbs : Nat)) ∧ New w w' := by
  go_enter Try.func30, Try.ntmps30
  go_wp2
  all_goals
    go_ret
    exact ⟨ret_int (by omega), (by repeat (first | with_reducible exact New.refl _ | with_reducible assumption | refine New.drewN ?_ _ | refine New.drew ?_ | refine New.alloc ?_ _ | refine New.setCell ?_ (by first | omega | (simp; omega) | (simp; done)) _ | (refine New.trans ?_ (by assumption))))⟩
end Go.Proofs.Ytefpnlimkelehaa
