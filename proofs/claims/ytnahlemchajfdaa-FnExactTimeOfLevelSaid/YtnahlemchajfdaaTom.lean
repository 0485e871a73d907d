/- TimeOfLevel: the model's. -/
import Derived.Test.YtnahlemchajfdaaTol
namespace Go.Proofs.Ytnahlemchajfdaa
open Go.RowKit Go.IntWalk

set_option maxRecDepth 100000 in
set_option maxHeartbeats 4000000 in
theorem sTimeOfLevel_any (w : World) (L D x : Int) :
    Calls Try.prog 20 #[.agg #[.int .i64 L, .int .i64 D], .int .i64 x] w fun e w' => e = .returned (.tuple #[.int .i64 (tlM L D x), .bool (tlB L D x)]) ∧ New w w' := by
  by_cases hg : ckB L D = true
  · have q := ckB_iff.1 hg
    have G := Lib.hid hg
    by_cases hx : 0 ≤ x
    · have HM := Lib.hid (show tlB L D x = true ∧ tlM L D x = (tlN D L x : Nat) by
        have e : tlB L D x = true := by unfold tlB; rw [hg, decide_eq_true hx]; rfl
        exact ⟨e, by unfold tlM; rw [if_pos e]⟩)
      have nx : ¬ x < 0 := by omega
      have LV := Lib.hid (fun w => ckLevels_any w L D q.1.1 q.1.2 q.2.1 q.2.2)
      have ht := Lib.hid (tim_le (D := D) (by omega) 1000 L (by omega) (by omega))
      have hle := Lib.hid (tlN_le q.2.1 q.1.1 hx)
      have hit := Lib.hid (tlN_hit q.2.1 q.1.1 hx)
      have bef := Lib.hid (fun j => tlN_before (j := j) q.2.1 q.1.1 hx)
      have GT := Lib.hid (fun j (h : j ≤ tim D L) => levL_get D L h)
      obtain ⟨T, hT⟩ : ∃ T, T = tim D L := ⟨_, rfl⟩
      rw [← hT] at ht hle LV GT
      clear hT
      obtain ⟨i, ei⟩ : ∃ i, i = tlN D L x := ⟨_, rfl⟩
      rw [← ei] at hle hit bef HM
      clear ei hg
      have ht' := ht.out
      have hle' := hle.out
      clear ht hle
      obtain ⟨N, eN⟩ : ∃ N, N = T + 1 := ⟨_, rfl⟩
      rw [← eN] at LV
      go_enter Try.func20, Try.ntmps20
      go_wp2_with fail
      refine (ckGood_any _ _ _).mono ?_
      rintro e w1 ⟨rfl, n_w1⟩
      have b0_w1 : w1.cell? ⟨w.heap.size, 0, none⟩ = some (.int .i64 L) := n_w1.cell (by simp [go_sem])
      have b1_w1 : w1.cell? ⟨w.heap.size, 1, none⟩ = some (.int .i64 D) := n_w1.cell (by simp [go_sem])
      have N1 := Lib.hid (show New w w1 from New.trans (by repeat (first | with_reducible exact New.refl _ | with_reducible assumption | refine New.drewN ?_ _ | refine New.drew ?_ | refine New.alloc ?_ _ | refine New.setCell ?_ (by first | omega | (simp; omega) | (simp; done)) _ | (refine New.trans ?_ (by assumption)))) n_w1); clear n_w1
      rw [G.out]
      go_wp2_with fail
      refine (LV.out _).mono ?_
      rintro e w2 ⟨pa, pc, rfl, own, n_w2⟩
      have N2 := Lib.hid (N1.out.trans n_w2); clear n_w2 b0_w1 b1_w1
      have OW := Lib.hid own.ints; clear own
      go_wp2
      try rw [show decide (x < 0) = false from decide_eq_false (by omega)]
      go_loopw [18] (fun v wr => ∃ j : Nat, j ≤ i ∧ v = .int .i64 (j : Int) ∧ New w2 wr) (fun v _ => 2000 - (intOf v).toNat)
      case atStart => exact ⟨0, Nat.zero_le _, rfl, New.refl _⟩
      case round =>
        obtain ⟨j, hj, rfl, hnw⟩ := hrel
        have NW := Lib.hid hnw; clear hnw
        have hlt : j < N := by omega
        obtain ⟨b, o, rfl, hc, hb⟩ := (OW.out.new NW.out).at (j := j) hlt
        rw [GT.out j (by omega)] at hc
        have gk : IntKind.i64.wrap ((j : Int) + 1) = (j : Int) + 1 := i64_in _ (by omega)
        by_cases e : j = i
        · subst e
          have h1 := hit.out
          obtain ⟨y, hy⟩ : ∃ y, y = levK D L j := ⟨_, rfl⟩
          rw [← hy] at hc h1
          clear hy
          go_wp2
          go_ret2
          rw [HM.out.1, HM.out.2]
          exact ⟨rfl, N2.out.trans NW.out⟩
        · have h1 := bef.out j (by omega)
          obtain ⟨y, hy⟩ : ∃ y, y = levK D L j := ⟨_, rfl⟩
          rw [← hy] at hc h1
          clear hy
          have h2 : ¬ y ≤ x := by omega
          go_wp2
          go_roundw
          case rel => exact ⟨j + 1, by omega, by push_cast; rfl, NW.out⟩
          case measure => simp [intOf]; omega
    · have HM := Lib.hid (show tlB L D x = false ∧ tlM L D x = 0 by
        have e : tlB L D x = false := by unfold tlB; rw [decide_eq_false hx]; simp
        exact ⟨e, by unfold tlM; rw [e]; rfl⟩)
      have nx : x < 0 := by omega
      clear hg
      go_enter Try.func20, Try.ntmps20
      go_wp2_with fail
      refine (ckGood_any _ _ _).mono ?_
      rintro e w1 ⟨rfl, n_w1⟩
      have N1 := Lib.hid (show New w w1 from New.trans (by repeat (first | with_reducible exact New.refl _ | with_reducible assumption | refine New.drewN ?_ _ | refine New.drew ?_ | refine New.alloc ?_ _ | refine New.setCell ?_ (by first | omega | (simp; omega) | (simp; done)) _ | (refine New.trans ?_ (by assumption)))) n_w1); clear n_w1
      rw [G.out]
      go_wp2
      go_ret2
      rw [HM.out.1, HM.out.2]
      exact ⟨rfl, N1.out⟩
  · have hf := bool_nt hg
    have HM := Lib.hid (show tlB L D x = false ∧ tlM L D x = 0 by
        have e : tlB L D x = false := by unfold tlB; rw [hf]; rfl
        exact ⟨e, by unfold tlM; rw [e]; rfl⟩)
    have G := Lib.hid hf
    clear hg hf
    go_enter Try.func20, Try.ntmps20
    go_wp2_with fail
    refine (ckGood_any _ _ _).mono ?_
    rintro e w1 ⟨rfl, n_w1⟩
    have N1 := Lib.hid (show New w w1 from New.trans (by repeat (first | with_reducible exact New.refl _ | with_reducible assumption | refine New.drewN ?_ _ | refine New.drew ?_ | refine New.alloc ?_ _ | refine New.setCell ?_ (by first | omega | (simp; omega) | (simp; done)) _ | (refine New.trans ?_ (by assumption)))) n_w1); clear n_w1
    rw [G.out]
    go_wp2
    go_ret2
    rw [HM.out.1, HM.out.2]
    exact ⟨rfl, N1.out⟩
end Go.Proofs.Ytnahlemchajfdaa
