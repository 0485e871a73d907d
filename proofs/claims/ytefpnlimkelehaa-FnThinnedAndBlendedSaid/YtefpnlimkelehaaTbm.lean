/- Thinned and blended: what the law says of the numbers. -/
import Derived.Test.YtefpnlimkelehaaThinI
import Derived.Test.YtefpnlimkelehaaBlendI
namespace Go.Proofs.Ytefpnlimkelehaa
open Go.RowKit Go.IntWalk

theorem wrap_off (a : Int) : ∃ q : Int, IntKind.i64.wrap a = a + 18446744073709551616 * q := by
  refine ⟨-((a + 9223372036854775808) / 18446744073709551616), ?_⟩
  rw [IntKind.wrap_i64]
  have := Int.emod_add_mul_ediv (a + 9223372036854775808) 18446744073709551616
  omega
theorem wrap_add_off (a q : Int) : IntKind.i64.wrap (a + 18446744073709551616 * q) = IntKind.i64.wrap a := by
  rw [IntKind.wrap_i64, IntKind.wrap_i64, show a + 18446744073709551616 * q + 9223372036854775808 = (a + 9223372036854775808) + 18446744073709551616 * q by omega, Int.add_mul_emod_self_left]
theorem wrap_mul_l (a b : Int) : IntKind.i64.wrap (IntKind.i64.wrap a * b) = IntKind.i64.wrap (a * b) := by
  obtain ⟨q, e⟩ := wrap_off a
  rw [e, show (a + 18446744073709551616 * q) * b = a * b + 18446744073709551616 * (q * b) by grind, wrap_add_off]
theorem wrap_mul_r (a b : Int) : IntKind.i64.wrap (b * IntKind.i64.wrap a) = IntKind.i64.wrap (b * a) := by
  rw [Int.mul_comm, wrap_mul_l, Int.mul_comm]
theorem wrap_add_l (a b : Int) : IntKind.i64.wrap (IntKind.i64.wrap a + b) = IntKind.i64.wrap (a + b) := by
  obtain ⟨q, e⟩ := wrap_off a
  rw [e, show a + 18446744073709551616 * q + b = (a + b) + 18446744073709551616 * q by omega, wrap_add_off]
theorem wrap_add_r (a b : Int) : IntKind.i64.wrap (b + IntKind.i64.wrap a) = IntKind.i64.wrap (b + a) := by
  rw [Int.add_comm, wrap_add_l, Int.add_comm]

theorem timeN_some {s k a b : Int} : ∀ {n t r : Nat}, timeN s k a b n t = some r → t ≤ r ∧ r < t + n ∧ (∃ p, thinR s k r = some p ∧ p.1 * b ≤ a * p.2) ∧ ∀ j, t ≤ j → j < r → ∃ q, thinR s k j = some q ∧ ¬ q.1 * b ≤ a * q.2 := by
  intro n
  induction n with
  | zero => intro t r h; cases h
  | succ n ih =>
    intro t r h
    cases hp : thinR s k t with
    | none => rw [timeN_none hp] at h; cases h
    | some p =>
      by_cases hle : p.1 * b ≤ a * p.2
      · rw [timeN_hit hp hle] at h
        obtain rfl : t = r := Option.some.inj h
        exact ⟨Nat.le_refl _, by omega, ⟨p, hp, hle⟩, fun j h1 h2 => by omega⟩
      · rw [timeN_on hp hle] at h
        obtain ⟨h1, h2, h3, h4⟩ := ih h
        refine ⟨by omega, by omega, h3, fun j hj hr => ?_⟩
        by_cases e : j = t
        · subst e; exact ⟨p, hp, hle⟩
        · exact h4 j (by omega) hr

theorem th_iff {s k t : Int} : thB s k t = true ↔ (thinsB s k = true ∧ 0 ≤ t ∧ t ≤ 50) ∧ ∃ p, thinR s k t.toNat = some p := by
  unfold thB
  rw [Bool.and_eq_true, Bool.and_eq_true, inB_iff, Option.isSome_iff_exists]
theorem thM_at {s k t : Int} {p : Int × Int} (h : thB s k t = true) (hp : thinR s k t.toNat = some p) : thM s k t = p := by
  unfold thM; rw [if_pos h, hp]; rfl
theorem th_good {s k t : Int} (h : thB s k t = true) : sgR (thM s k t).1 (thM s k t).2 = true := by
  obtain ⟨_, p, hp⟩ := th_iff.1 h
  rw [thM_at h hp]; exact thinR_good hp
theorem th_zero {s k : Int} (h : thB s k 0 = true) : thM s k 0 = (1, 1) := thM_at h rfl
theorem th_step {s k t : Int} (h : thB s k t = true) (ht : 0 < t) : thB s k (t - 1) = true ∧ (thM s k t).1 * (thM s k (t - 1)).2 * s = (thM s k (t - 1)).1 * (thM s k t).2 * (s - k) := by
  obtain ⟨⟨h1, h2, h3⟩, p, hp⟩ := th_iff.1 h
  obtain ⟨n, rfl⟩ : ∃ n : Nat, t = (n : Int) + 1 := ⟨(t - 1).toNat, by omega⟩
  have e : ((n : Int) + 1).toNat = n + 1 := by omega
  have e2 : ((n : Int) + 1 - 1) = (n : Int) := by omega
  rw [e] at hp
  have hs := (thinsB_iff.1 h1).1
  unfold thinR at hp
  rw [Option.bind_eq_some_iff] at hp
  obtain ⟨q, hq, hp⟩ := hp
  split at hp
  · rename_i hg
    have hb : thB s k ((n : Int) + 1 - 1) = true := th_iff.2 ⟨⟨h1, by omega, by omega⟩, q, by rw [e2, Int.toNat_natCast]; exact hq⟩
    have hp' : thinOne s k q = p := Option.some.inj hp
    have m1 : thM s k ((n : Int) + 1) = p := thM_at h (by rw [e, ← hp']; exact thinR_yes hq hg)
    have m2 : thM s k ((n : Int) + 1 - 1) = q := thM_at hb (by rw [e2, Int.toNat_natCast]; exact hq)
    refine ⟨hb, ?_⟩
    rw [m1, m2, ← hp']
    unfold thinOne
    have := red_cross (q.1 * (s - k)) (q.2 * s)
    grind
  · cases hp
theorem tt_any {s k a b : Int} (h : ttB s k a b = true) : sgR a b = true ∧ thB s k (ttM s k a b) = true ∧ (thM s k (ttM s k a b)).1 * b ≤ a * (thM s k (ttM s k a b)).2 ∧
    (0 < ttM s k a b → thB s k (ttM s k a b - 1) = true ∧ a * (thM s k (ttM s k a b - 1)).2 < (thM s k (ttM s k a b - 1)).1 * b) := by
  have h0 := h
  unfold ttB at h
  rw [Bool.and_eq_true, Bool.and_eq_true, Option.isSome_iff_exists] at h
  obtain ⟨⟨h1, h2⟩, r, hr⟩ := h
  have e : ttM s k a b = (r : Int) := by unfold ttM; rw [if_pos h0, hr]; rfl
  obtain ⟨q1, q2, ⟨p, hp, hle⟩, q4⟩ := timeN_some hr
  have hb : thB s k (r : Int) = true := th_iff.2 ⟨⟨h1, by omega, by omega⟩, p, by rw [Int.toNat_natCast]; exact hp⟩
  rw [e]
  refine ⟨h2, hb, ?_, fun hpos => ?_⟩
  · rw [thM_at hb (by rw [Int.toNat_natCast]; exact hp)]; exact hle
  · obtain ⟨q, hq, hgt⟩ := q4 (r - 1) (by omega) (by omega)
    have e2 : ((r : Int) - 1).toNat = r - 1 := by omega
    have hb2 : thB s k ((r : Int) - 1) = true := th_iff.2 ⟨⟨h1, by omega, by omega⟩, q, by rw [e2]; exact hq⟩
    refine ⟨hb2, ?_⟩
    rw [thM_at hb2 (by rw [e2]; exact hq)]; omega

theorem bl_iff {p1 p2 q1 q2 g1 g2 : Int} (h : blB p1 p2 q1 q2 g1 g2 = true) : sgR p1 p2 = true ∧ sgR q1 q2 = true ∧ sgR g1 g2 = true ∧ ((g1 = p1 ∧ g2 = p2) ∨ (g1 = q1 ∧ g2 = q2) ∨ (betB p1 p2 q1 q2 g1 g2 = true ∧ capP (blR p1 p2 q1 q2 g1 g2) = true)) := by
  unfold blB at h
  simp only [Bool.and_eq_true, Bool.or_eq_true, decide_eq_true_eq] at h
  obtain ⟨⟨⟨h1, h2⟩, h3⟩, h4⟩ := h
  exact ⟨h1, h2, h3, by rcases h4 with (h4 | h4) | h4 <;> simp [h4]⟩
theorem red_swap {n d : Int} : red d n = ((red n d).2, (red n d).1) := by
  unfold red
  rw [Int.gcd_comm]
theorem bl_all {p1 p2 q1 q2 g1 g2 : Int} (h : blB p1 p2 q1 q2 g1 g2 = true) :
    (0 ≤ (blM p1 p2 q1 q2 g1 g2).1 ∧ (blM p1 p2 q1 q2 g1 g2).1 ≤ 1000000000) ∧ (0 ≤ (blM p1 p2 q1 q2 g1 g2).2 ∧ (blM p1 p2 q1 q2 g1 g2).2 ≤ 1000000000) ∧ 1 ≤ (blM p1 p2 q1 q2 g1 g2).1 + (blM p1 p2 q1 q2 g1 g2).2 ∧
    ((blM p1 p2 q1 q2 g1 g2).1 * p1 * q2 + (blM p1 p2 q1 q2 g1 g2).2 * q1 * p2) * g2 = g1 * ((blM p1 p2 q1 q2 g1 g2).1 + (blM p1 p2 q1 q2 g1 g2).2) * p2 * q2 ∧
    blB q1 q2 p1 p2 g1 g2 = true ∧ (¬ (p1 = q1 ∧ p2 = q2) → blM q1 q2 p1 p2 g1 g2 = ((blM p1 p2 q1 q2 g1 g2).2, (blM p1 p2 q1 q2 g1 g2).1)) := by
  obtain ⟨hp, hq, hg, hc⟩ := bl_iff h
  by_cases ep : g1 = p1 ∧ g2 = p2
  · rw [(bl_p hp hq hg ep).2]
    obtain ⟨rfl, rfl⟩ := ep
    refine ⟨by simp, by simp, by simp, by simp only []; grind, ?_, ?_⟩
    · by_cases eq : g1 = q1 ∧ g2 = q2
      · exact (bl_p hq hp hg eq).1
      · exact (bl_q hq hp hg eq ⟨rfl, rfl⟩).1
    · intro hne
      exact (bl_q hq hp hg hne ⟨rfl, rfl⟩).2
  · by_cases eq : g1 = q1 ∧ g2 = q2
    · rw [(bl_q hp hq hg ep eq).2]
      obtain ⟨rfl, rfl⟩ := eq
      refine ⟨by simp, by simp, by simp, by simp only []; grind, (bl_p hq hp hg ⟨rfl, rfl⟩).1, fun _ => (bl_p hq hp hg ⟨rfl, rfl⟩).2⟩
    · obtain ⟨hb, hcap⟩ : betB p1 p2 q1 q2 g1 g2 = true ∧ capP (blR p1 p2 q1 q2 g1 g2) = true := by
        rcases hc with hc | hc | hc
        · exact absurd hc ep
        · exact absurd hc eq
        · exact hc
      have e := (bl_mid hp hq hg ep eq hb).2
      have ex : capX (blR p1 p2 q1 q2 g1 g2) = blR p1 p2 q1 q2 g1 g2 := by unfold capX; rw [if_pos hcap]
      have gp := gap_pos hp hg ep
      have gq := gap_pos hq hg eq
      have p2p := (sgR_iff.1 hp).1.1
      have q2p := (sgR_iff.1 hq).1.1
      obtain ⟨A, hA⟩ : ∃ A : Nat, A = (q1 * g2 - g1 * q2).natAbs := ⟨_, rfl⟩
      obtain ⟨B, hB⟩ : ∃ B : Nat, B = (p1 * g2 - g1 * p2).natAbs := ⟨_, rfl⟩
      have eR : blR p1 p2 q1 q2 g1 g2 = red ((A : Int) * p2) ((B : Int) * q2) := by unfold blR; rw [← hA, ← hB]
      rw [← hA] at gq
      rw [← hB] at gp
      have n1 : 0 < (A : Int) * p2 := Int.mul_pos (by omega) (by omega)
      have n2 : 0 < (B : Int) * q2 := Int.mul_pos (by omega) (by omega)
      have cr := red_cross ((A : Int) * p2) ((B : Int) * q2)
      have yp := red_pos (n := (A : Int) * p2) n2
      have xp := (red_le (n := (A : Int) * p2) n2).2.1 (by omega)
      rw [e, ex, eR]
      have hcap' := hcap
      rw [eR] at hcap'
      unfold capP at hcap'
      simp only [Bool.and_eq_true, decide_eq_true_eq] at hcap'
      refine ⟨⟨xp.1, hcap'.1⟩, ⟨by omega, hcap'.2⟩, by omega, ?_, ?_⟩
      · -- the balance
        obtain ⟨x, hx⟩ : ∃ x, x = (red ((A : Int) * p2) ((B : Int) * q2)).1 := ⟨_, rfl⟩
        obtain ⟨y, hy⟩ : ∃ y, y = (red ((A : Int) * p2) ((B : Int) * q2)).2 := ⟨_, rfl⟩
        rw [← hx, ← hy] at cr ⊢
        have hb2 := beq_yes hb
        by_cases hlt : p1 * g2 < g1 * p2
        · have h2 : g1 * q2 < q1 * g2 := by
            rw [decide_eq_true hlt] at hb2
            exact of_decide_eq_true hb2.symm
          have a1 : (A : Int) = q1 * g2 - g1 * q2 := by omega
          have b1 : (B : Int) = g1 * p2 - p1 * g2 := by omega
          rw [a1, b1] at cr
          grind
        · have h2 : ¬ g1 * q2 < q1 * g2 := by
            rw [decide_eq_false hlt] at hb2
            exact of_decide_eq_false hb2.symm
          have a1 : (A : Int) = g1 * q2 - q1 * g2 := by omega
          have b1 : (B : Int) = p1 * g2 - g1 * p2 := by omega
          rw [a1, b1] at cr
          grind
      · have hb' : betB q1 q2 p1 p2 g1 g2 = true := by
          have hb2 := beq_yes hb
          unfold betB
          have c1 : ¬ p1 * g2 = g1 * p2 := by omega
          have c2 : ¬ q1 * g2 = g1 * q2 := by omega
          by_cases hlt : p1 * g2 < g1 * p2
          · have h2 : g1 * q2 < q1 * g2 := by
              rw [decide_eq_true hlt] at hb2
              exact of_decide_eq_true hb2.symm
            rw [decide_eq_false (show ¬ q1 * g2 < g1 * q2 by omega), decide_eq_false (show ¬ g1 * p2 < p1 * g2 by omega)]; rfl
          · have h2 : ¬ g1 * q2 < q1 * g2 := by
              rw [decide_eq_false hlt] at hb2
              exact of_decide_eq_false hb2.symm
            rw [decide_eq_true (show q1 * g2 < g1 * q2 by omega), decide_eq_true (show g1 * p2 < p1 * g2 by omega)]; rfl
        have eR' : blR q1 q2 p1 p2 g1 g2 = ((red ((A : Int) * p2) ((B : Int) * q2)).2, (red ((A : Int) * p2) ((B : Int) * q2)).1) := by
          unfold blR
          rw [← hA, ← hB]
          exact red_swap
        have cap' : capP (blR q1 q2 p1 p2 g1 g2) = true := by
          rw [eR']; unfold capP
          simp only [Bool.and_eq_true, decide_eq_true_eq]
          exact ⟨hcap'.2, hcap'.1⟩
        have ee := bl_mid hq hp hg eq ep hb'
        refine ⟨by rw [ee.1]; exact cap', fun _ => ?_⟩
        rw [ee.2]
        unfold capX
        rw [if_pos cap', eR']
end Go.Proofs.Ytefpnlimkelehaa
