/- The program's sums, differences and products of ratios; what a tank holds up to a level. -/
import Derived.Test.YtlhpkpfnaepgbaaRatI
import Derived.Test.YtlhpkpfnaepgbaaRowTank
namespace Go.Proofs.Ytlhpkpfnaepgbaa
open Go.RowKit Go.IntWalk

theorem pair_kept {W W' : World} {p q : Addr} {x y : Value} (n1 : New W W') (hc : W.cell? p = some x ∧ W.cell? q = some y ∧ W.frozen? p = false ∧ W.frozen? q = false) :
    W'.cell? p = some x ∧ W'.cell? q = some y ∧ W'.frozen? p = false ∧ W'.frozen? q = false :=
  ⟨n1.cell hc.1, n1.cell hc.2.1, n1.frz hc.1 hc.2.2.1, n1.frz hc.2.1 hc.2.2.2⟩

theorem wholeRatio_any (w : World) (n : Int) :
    Calls Try.prog 43 #[.int .i64 n] w fun e w' => e = .returned (ratV (n, 1)) ∧ New w w' := by
  go_enter Try.func43, Try.ntmps43
  go_wp2
  refine bodyPost_ret (v := ratV (n, 1)) (by simp [results, Try.results43, go_sem]) rfl ⟨rfl, ?_⟩
  (repeat (first | with_reducible exact New.refl _ | with_reducible assumption | refine New.drewN ?_ _ | refine New.drew ?_ | refine New.alloc ?_ _ | refine New.setCell ?_ (by first | omega | (simp; omega) | (simp; done)) _ | (refine New.trans ?_ (by assumption))))

abbrev tkV (a f u : Int) : Value := .agg #[.int .i64 a, .int .i64 f, .int .i64 u]
theorem water_any (w : World) (a f u : Int) : Calls Try.prog 63 #[tkV a f u] w fun e w' => e = .returned (.int .i64 u) ∧ New w w' := by
  go_enter Try.func63, Try.ntmps63
  go_wp2
  go_ret
  exact ⟨rfl, (by repeat (first | with_reducible exact New.refl _ | with_reducible assumption | refine New.drewN ?_ _ | refine New.drew ?_ | refine New.alloc ?_ _ | refine New.setCell ?_ (by first | omega | (simp; omega) | (simp; done)) _ | (refine New.trans ?_ (by assumption))))⟩

/-- Asked for by the function 51. -/
theorem area_any (w : World) (a f u : Int) : Calls Try.prog 64 #[tkV a f u] w fun e w' => e = .returned (.int .i64 a) ∧ New w w' := by
  go_enter Try.func64, Try.ntmps64
  go_wp2
  go_ret
  exact ⟨rfl, (by repeat (first | with_reducible exact New.refl _ | with_reducible assumption | refine New.drewN ?_ _ | refine New.drew ?_ | refine New.alloc ?_ _ | refine New.setCell ?_ (by first | omega | (simp; omega) | (simp; done)) _ | (refine New.trans ?_ (by assumption))))⟩

theorem mul_bd {a b A B : Int} (h1 : 0 ≤ a) (h2 : a ≤ A) (h3 : 0 ≤ b) (h4 : b ≤ B) : 0 ≤ a * b ∧ a * b ≤ A * B :=
  ⟨Int.mul_nonneg h1 h3, Int.mul_le_mul h2 h4 h3 (by omega)⟩

/-- A level that may be told of: its bounds. -/
structure LvBd (p : Int × Int) : Prop where
  n0 : 0 ≤ p.1
  n1 : p.1 ≤ 1000000
  d0 : 1 ≤ p.2
  d1 : p.2 ≤ 1000
theorem upTo_bd {t : Tk} (ht : TkOk t) {p : Int × Int} (hp : LvBd p) : 0 ≤ upTo p.1 p.2 t ∧ upTo p.1 p.2 t ≤ 50000000 := by
  have q1 := ht.a1; have q2 := ht.a2; have q3 := ht.f1; have q4 := ht.f2
  have r1 := hp.n0; have r2 := hp.n1; have r3 := hp.d0; have r4 := hp.d1
  have h1 := mul_bd q3 q4 (show 0 ≤ p.2 by omega) r4
  have h2 := mul_bd (show 0 ≤ t.1 by omega) q2 (show 0 ≤ max 0 (p.1 - t.2.1 * p.2) by omega) (show max 0 (p.1 - t.2.1 * p.2) ≤ 1000000 by omega)
  unfold upTo
  omega
theorem partsUpTo_any (w : World) (a f u n d : Int) (ht : TkOk (a, f, u)) (hp : LvBd (n, d)) :
    Calls Try.prog 54 #[tkV a f u, ratV (n, d)] w fun e w' => e = .returned (.int .i64 (upTo n d (a, f, u))) ∧ New w w' := by
  have hb := upTo_bd ht hp
  have h1 := mul_bd ht.f1 ht.f2 (show 0 ≤ d by have := hp.d0; simp only at this; omega) hp.d1
  have r1 := hp.n0; have r2 := hp.n1
  simp only at h1 r1 r2 hb
  unfold upTo at hb ⊢
  simp only at hb ⊢
  by_cases hz : 0 ≤ n - f * d
  · have e0 : max 0 (n - f * d) = n - f * d := Int.max_eq_right hz
    rw [e0] at hb ⊢
    clear e0
    obtain ⟨hb1, hb2⟩ := hb
    obtain ⟨h1a, h1b⟩ := h1
    have hz' : n - f * d > 0 ∨ n - f * d = 0 := by omega
    rcases hz' with hz' | hz'
    · have e1 : ¬ (0 : Int) ≥ n - f * d := by omega
      go_enter Try.func54, Try.ntmps54
      go_wp2
      go_ret
      exact ⟨rfl, (by repeat (first | with_reducible exact New.refl _ | with_reducible assumption | refine New.drewN ?_ _ | refine New.drew ?_ | refine New.alloc ?_ _ | refine New.setCell ?_ (by first | omega | (simp; omega) | (simp; done)) _ | (refine New.trans ?_ (by assumption))))⟩
    · rw [hz', Int.mul_zero]
      clear hb1 hb2
      go_enter Try.func54, Try.ntmps54
      go_wp2
      go_ret
      exact ⟨rfl, (by repeat (first | with_reducible exact New.refl _ | with_reducible assumption | refine New.drewN ?_ _ | refine New.drew ?_ | refine New.alloc ?_ _ | refine New.setCell ?_ (by first | omega | (simp; omega) | (simp; done)) _ | (refine New.trans ?_ (by assumption))))⟩
  · have e0 : max 0 (n - f * d) = 0 := Int.max_eq_left (by omega)
    rw [e0, Int.mul_zero]
    clear hb e0
    obtain ⟨h1a, h1b⟩ := h1
    have hz' : n - f * d < 0 := by omega
    go_enter Try.func54, Try.ntmps54
    go_wp2
    go_ret
    exact ⟨rfl, (by repeat (first | with_reducible exact New.refl _ | with_reducible assumption | refine New.drewN ?_ _ | refine New.drew ?_ | refine New.alloc ?_ _ | refine New.setCell ?_ (by first | omega | (simp; omega) | (simp; done)) _ | (refine New.trans ?_ (by assumption))))⟩
end Go.Proofs.Ytlhpkpfnaepgbaa
