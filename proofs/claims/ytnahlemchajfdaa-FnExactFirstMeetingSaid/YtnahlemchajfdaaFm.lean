/- FirstMeeting: the model's. -/
import Derived.Test.YtnahlemchajfdaaCa
namespace Go.Proofs.Ytnahlemchajfdaa
open Go.RowKit Go.IntWalk

theorem levK_range {D L : Int} (hD : 1 ≤ D) (hL : 0 ≤ L) (k : Nat) : 0 ≤ levK D L k ∧ levK D L k ≤ L := by
  by_cases h : k ≤ tim D L
  · have q := levK_all hD hL k h
    exact ⟨q.1, q.2.1⟩
  · rw [levK_past hD hL k (by omega)]; exact ⟨Int.le_refl _, hL⟩
theorem levK_one (D x : Int) : levK D x 1 = x - qUp x D := rfl

def fmN (L D M E : Int) : Nat := (List.range 1001).findIdx fun k => decide (levK D L k = levK E M k)
def fmB (L D M E : Int) : Bool := ckB L D && ckB M E
def fmM (L D M E : Int) : Int := if fmB L D M E then (fmN L D M E : Nat) else 0

theorem fmN_le {L D M E : Int} (hD : 1 ≤ D) (hL : 0 ≤ L ∧ L ≤ 1000) (hE : 1 ≤ E) (hM : 0 ≤ M ∧ M ≤ 1000) : fmN L D M E ≤ 1000 := by
  have h : fmN L D M E < (List.range 1001).length := by
    unfold fmN
    rw [List.findIdx_lt_length]
    refine ⟨1000, by simp, ?_⟩
    rw [levK_past hD hL.1 1000 (tim_le hD 1000 L hL.1 hL.2), levK_past hE hM.1 1000 (tim_le hE 1000 M hM.1 hM.2)]
    rfl
  simpa [Nat.lt_succ_iff] using h
theorem fmN_hit {L D M E : Int} (hD : 1 ≤ D) (hL : 0 ≤ L ∧ L ≤ 1000) (hE : 1 ≤ E) (hM : 0 ≤ M ∧ M ≤ 1000) : levK D L (fmN L D M E) = levK E M (fmN L D M E) := by
  have h := fmN_le hD hL hE hM
  have e := List.findIdx_getElem (xs := List.range 1001) (p := fun k => decide (levK D L k = levK E M k)) (w := by rw [List.length_range]; exact Nat.lt_succ_of_le h)
  have e2 := of_decide_eq_true e
  rw [List.getElem_range] at e2
  exact e2
theorem fmN_before {L D M E : Int} (hD : 1 ≤ D) (hL : 0 ≤ L ∧ L ≤ 1000) (hE : 1 ≤ E) (hM : 0 ≤ M ∧ M ≤ 1000) {j : Nat} (hj : j < fmN L D M E) : ¬ levK D L j = levK E M j := by
  have h := fmN_le hD hL hE hM
  have e := List.not_of_lt_findIdx (xs := List.range 1001) (p := fun k => decide (levK D L k = levK E M k)) hj
  simpa using e

set_option maxRecDepth 100000 in
set_option maxHeartbeats 8000000 in
theorem sFirstMeeting_any (w : World) (L D M E : Int) :
    Calls Try.prog 24 #[.agg #[.int .i64 L, .int .i64 D], .agg #[.int .i64 M, .int .i64 E]] w fun e w' => e = .returned (.tuple #[.int .i64 (fmM L D M E), .bool (fmB L D M E)]) ∧ New w w' := by
  by_cases hg : ckB L D = true
  · have q := ckB_iff.1 hg
    have G := Lib.hid hg
    by_cases hx : ckB M E = true
    · have p := ckB_iff.1 hx
      have HM := Lib.hid (show fmB L D M E = true ∧ fmM L D M E = (fmN L D M E : Nat) by
        have e : fmB L D M E = true := by unfold fmB; rw [hg, hx]; rfl
        exact ⟨e, by unfold fmM; rw [if_pos e]⟩)
      have X := Lib.hid hx
      have A1 := Lib.hid (fun w x (h : 0 ≤ x ∧ x ≤ L) => ckAfter_any w x D 1 h.1 (by omega) q.2.1 q.2.2 (by omega) (by omega))
      have A2 := Lib.hid (fun w x (h : 0 ≤ x ∧ x ≤ M) => ckAfter_any w x E 1 h.1 (by omega) p.2.1 p.2.2 (by omega) (by omega))
      have hle := fmN_le q.2.1 q.1 p.2.1 p.1
      have hit := Lib.hid (fmN_hit q.2.1 q.1 p.2.1 p.1)
      have bef := Lib.hid (fun j => fmN_before q.2.1 q.1 p.2.1 p.1 (j := j))
      have R1 := Lib.hid (levK_range (L := L) q.2.1 q.1.1)
      have R2 := Lib.hid (levK_range (L := M) p.2.1 p.1.1)
      obtain ⟨n, en⟩ : ∃ n, n = fmN L D M E := ⟨_, rfl⟩
      rw [← en] at hle hit bef HM
      clear hg hx q p en
      go_enter Try.func24, Try.ntmps24
      go_wp2_with fail
      refine (ckGood_any _ _ _).mono ?_
      rintro e w1 ⟨rfl, n_w1⟩
      have b0_w1 : w1.cell? ⟨w.heap.size, 0, none⟩ = some (.int .i64 L) := n_w1.cell (by simp [go_sem])
      have b1_w1 : w1.cell? ⟨w.heap.size, 1, none⟩ = some (.int .i64 D) := n_w1.cell (by simp [go_sem])
      have d0_w1 : w1.cell? ⟨w.heap.size + 1, 0, none⟩ = some (.int .i64 M) := n_w1.cell (by simp [go_sem])
      have d1_w1 : w1.cell? ⟨w.heap.size + 1, 1, none⟩ = some (.int .i64 E) := n_w1.cell (by simp [go_sem])
      have f0_w1 : w1.frozen? ⟨w.heap.size, 0, none⟩ = false := n_w1.frz (v := .int .i64 L) (by simp [go_sem]) (by simp [go_sem])
      have f1_w1 : w1.frozen? ⟨w.heap.size, 1, none⟩ = false := n_w1.frz (v := .int .i64 D) (by simp [go_sem]) (by simp [go_sem])
      have f2_w1 : w1.frozen? ⟨w.heap.size + 1, 0, none⟩ = false := n_w1.frz (v := .int .i64 M) (by simp [go_sem]) (by simp [go_sem])
      have f3_w1 : w1.frozen? ⟨w.heap.size + 1, 1, none⟩ = false := n_w1.frz (v := .int .i64 E) (by simp [go_sem]) (by simp [go_sem])
      have N1 := Lib.hid (show New w w1 from New.trans (by repeat (first | with_reducible exact New.refl _ | with_reducible assumption | refine New.drewN ?_ _ | refine New.drew ?_ | refine New.alloc ?_ _ | refine New.setCell ?_ (by first | omega | (simp; omega) | (simp; done)) _ | (refine New.trans ?_ (by assumption)))) n_w1); clear n_w1
      rw [G.out]
      go_wp2_with fail
      refine (ckGood_any _ _ _).mono ?_
      rintro e w2 ⟨rfl, n_w2⟩
      have b0 : w2.cell? ⟨w.heap.size, 0, none⟩ = some (.int .i64 L) := n_w2.cell b0_w1
      have b1 : w2.cell? ⟨w.heap.size, 1, none⟩ = some (.int .i64 D) := n_w2.cell b1_w1
      have d0 : w2.cell? ⟨w.heap.size + 1, 0, none⟩ = some (.int .i64 M) := n_w2.cell d0_w1
      have d1 : w2.cell? ⟨w.heap.size + 1, 1, none⟩ = some (.int .i64 E) := n_w2.cell d1_w1
      have f0 := n_w2.frz b0_w1 f0_w1
      have f1 := n_w2.frz b1_w1 f1_w1
      have f2 := n_w2.frz d0_w1 f2_w1
      have f3 := n_w2.frz d1_w1 f3_w1
      have N2 := Lib.hid (N1.out.trans n_w2); clear n_w2 b0_w1 b1_w1 d0_w1 d1_w1 f0_w1 f1_w1 f2_w1 f3_w1
      rw [X.out]
      go_wp2
      go_loopw [6] (fun v wr => ∃ j : Nat, j ≤ n ∧ v = .int .i64 (j : Int) ∧ wr.cell? ⟨w.heap.size, 0, none⟩ = some (.int .i64 (levK D L j)) ∧ wr.cell? ⟨w.heap.size, 1, none⟩ = some (.int .i64 D) ∧ wr.cell? ⟨w.heap.size + 1, 0, none⟩ = some (.int .i64 (levK E M j)) ∧ wr.cell? ⟨w.heap.size + 1, 1, none⟩ = some (.int .i64 E) ∧ wr.frozen? ⟨w.heap.size, 0, none⟩ = false ∧ wr.frozen? ⟨w.heap.size, 1, none⟩ = false ∧ wr.frozen? ⟨w.heap.size + 1, 0, none⟩ = false ∧ wr.frozen? ⟨w.heap.size + 1, 1, none⟩ = false ∧ New w wr) (fun v _ => 1001 - (intOf v).toNat)
      case atStart => exact ⟨0, Nat.zero_le _, rfl, b0, b1, d0, d1, f0, f1, f2, f3, N2.out⟩
      case round =>
        clear b0 b1 d0 d1 f0 f1 f2 f3
        obtain ⟨j, hj, rfl, b0, b1, d0, d1, f0, f1, f2, f3, hnw⟩ := hrel
        have NW := Lib.hid hnw; clear hnw
        have zb := World.block_lt_of_cell? _ _ d0
        simp only at zb
        by_cases hlt : j < n
        · have hne := bef.out j hlt
          have LS1 := Lib.hid (levK_succ D L j)
          have LS2 := Lib.hid (levK_succ E M j)
          have r1 := R1.out j
          have r2 := R2.out j
          obtain ⟨x, hx⟩ : ∃ x, x = levK D L j := ⟨_, rfl⟩
          obtain ⟨y, hy⟩ : ∃ y, y = levK E M j := ⟨_, rfl⟩
          rw [← hx] at hne r1 LS1 b0
          rw [← hy] at hne r2 LS2 d0
          clear hx hy
          rw [← levK_one] at LS1 LS2
          have F1 := Lib.hid (fun w => A1.out w x r1)
          have F2 := Lib.hid (fun w => A2.out w y r2)
          rw [show (1 : Int).toNat = 1 from rfl] at F1 F2
          obtain ⟨x', hx'⟩ : ∃ x', x' = levK D x 1 := ⟨_, rfl⟩
          obtain ⟨y', hy'⟩ : ∃ y', y' = levK E y 1 := ⟨_, rfl⟩
          rw [← hx'] at LS1 F1
          rw [← hy'] at LS2 F2
          clear hx' hy'
          have gk : IntKind.i64.wrap ((j : Int) + 1) = (j : Int) + 1 := i64_in _ (by omega)
          go_wp2_with fail
          refine (F1.out _).mono ?_
          rintro e w3 ⟨rfl, n_w3⟩
          have c0 := n_w3.cell b0
          have c1 := n_w3.cell b1
          have c2 := n_w3.cell d0
          have c3 := n_w3.cell d1
          have g0 := n_w3.frz b0 f0
          have g1 := n_w3.frz b1 f1
          have g2 := n_w3.frz d0 f2
          have g3 := n_w3.frz d1 f3
          have N3 := Lib.hid (NW.out.trans n_w3); clear n_w3 b0 b1 d0 d1 f0 f1 f2 f3
          have zb3 := World.block_lt_of_cell? _ _ c2
          simp only at zb3
          go_wp2_with fail
          obtain ⟨w5, hw5⟩ : ∃ z, z = (w3.setCell ⟨w.heap.size, 0, none⟩ (.int .i64 x')).setCell ⟨w.heap.size, 1, none⟩ (.int .i64 D) := ⟨_, rfl⟩
          rw [← hw5]
          have b0 : w5.cell? ⟨w.heap.size, 0, none⟩ = some (.int .i64 x') := by rw [hw5, set_other (by simp)]; exact set_same c0
          have b1 : w5.cell? ⟨w.heap.size, 1, none⟩ = some (.int .i64 D) := by rw [hw5]; exact set_same (by rw [set_other (by simp)]; exact c1)
          have d0 : w5.cell? ⟨w.heap.size + 1, 0, none⟩ = some (.int .i64 y) := by rw [hw5, set_other (by simp), set_other (by simp)]; exact c2
          have d1 : w5.cell? ⟨w.heap.size + 1, 1, none⟩ = some (.int .i64 E) := by rw [hw5, set_other (by simp), set_other (by simp)]; exact c3
          have f0 : w5.frozen? ⟨w.heap.size, 0, none⟩ = false := by rw [hw5, World.frozen?_setCell, World.frozen?_setCell]; exact g0
          have f1 : w5.frozen? ⟨w.heap.size, 1, none⟩ = false := by rw [hw5, World.frozen?_setCell, World.frozen?_setCell]; exact g1
          have f2 : w5.frozen? ⟨w.heap.size + 1, 0, none⟩ = false := by rw [hw5, World.frozen?_setCell, World.frozen?_setCell]; exact g2
          have f3 : w5.frozen? ⟨w.heap.size + 1, 1, none⟩ = false := by rw [hw5, World.frozen?_setCell, World.frozen?_setCell]; exact g3
          have N5 := Lib.hid (show New w w5 by rw [hw5]; exact (N3.out.setCell (p := ⟨w.heap.size, 0, none⟩) (by simp) _).setCell (p := ⟨w.heap.size, 1, none⟩) (by simp) _)
          clear hw5 c0 c1 c2 c3 g0 g1 g2 g3 N3 zb3
          have zb3 := World.block_lt_of_cell? _ _ d0
          simp only at zb3
          refine (F2.out _).mono ?_
          rintro e w4 ⟨rfl, n_w4⟩
          have c0 := n_w4.cell b0
          have c1 := n_w4.cell b1
          have c2 := n_w4.cell d0
          have c3 := n_w4.cell d1
          have g0 := n_w4.frz b0 f0
          have g1 := n_w4.frz b1 f1
          have g2 := n_w4.frz d0 f2
          have g3 := n_w4.frz d1 f3
          have N4 := Lib.hid (N5.out.trans n_w4); clear n_w4 b0 b1 d0 d1 f0 f1 f2 f3
          have zb4 := World.block_lt_of_cell? _ _ c2
          simp only at zb4
          go_wp2
          go_roundw
          case rel =>
            refine ⟨j + 1, by omega, by push_cast; rfl, ?_, ?_, ?_, ?_, ?_, ?_, ?_, ?_, ?_⟩
            · rw [LS1.out, set_other (by simp), set_other (by simp)]; exact c0
            · rw [set_other (by simp), set_other (by simp)]; exact c1
            · rw [LS2.out, set_other (by simp)]; exact set_same c2
            · exact set_same (by rw [set_other (by simp)]; exact c3)
            · rw [World.frozen?_setCell, World.frozen?_setCell]; exact g0
            · rw [World.frozen?_setCell, World.frozen?_setCell]; exact g1
            · rw [World.frozen?_setCell, World.frozen?_setCell]; exact g2
            · rw [World.frozen?_setCell, World.frozen?_setCell]; exact g3
            · exact (N4.out.setCell (p := ⟨w.heap.size + 1, 0, none⟩) (by simp) _).setCell (p := ⟨w.heap.size + 1, 1, none⟩) (by simp) _
          case measure => simp [intOf]; omega
        · obtain rfl : j = n := by omega
          have he := hit.out
          obtain ⟨x, hx⟩ : ∃ x, x = levK D L j := ⟨_, rfl⟩
          rw [← hx] at he b0
          rw [← he] at d0
          clear he hx
          go_wp2
          go_ret2
          rw [HM.out.1, HM.out.2]
          exact ⟨rfl, NW.out⟩
    · have hf := bool_nt hx
      have HM := Lib.hid (show fmB L D M E = false ∧ fmM L D M E = 0 by
        have e : fmB L D M E = false := by unfold fmB; rw [hf]; simp
        exact ⟨e, by unfold fmM; rw [e]; rfl⟩)
      have X := Lib.hid hf
      clear hg hx hf q
      go_enter Try.func24, Try.ntmps24
      go_wp2_with fail
      refine (ckGood_any _ _ _).mono ?_
      rintro e w1 ⟨rfl, n_w1⟩
      have d0_w1 : w1.cell? ⟨w.heap.size + 1, 0, none⟩ = some (.int .i64 M) := n_w1.cell (by simp [go_sem])
      have d1_w1 : w1.cell? ⟨w.heap.size + 1, 1, none⟩ = some (.int .i64 E) := n_w1.cell (by simp [go_sem])
      have N1 := Lib.hid (show New w w1 from New.trans (by repeat (first | with_reducible exact New.refl _ | with_reducible assumption | refine New.drewN ?_ _ | refine New.drew ?_ | refine New.alloc ?_ _ | refine New.setCell ?_ (by first | omega | (simp; omega) | (simp; done)) _ | (refine New.trans ?_ (by assumption)))) n_w1); clear n_w1
      rw [G.out]
      go_wp2_with fail
      refine (ckGood_any _ _ _).mono ?_
      rintro e w2 ⟨rfl, n_w2⟩
      have N2 := Lib.hid (N1.out.trans n_w2); clear n_w2 d0_w1 d1_w1
      rw [X.out]
      go_wp2
      go_ret2
      rw [HM.out.1, HM.out.2]
      exact ⟨rfl, N2.out⟩
  · have hf := bool_nt hg
    have HM := Lib.hid (show fmB L D M E = false ∧ fmM L D M E = 0 by
        have e : fmB L D M E = false := by unfold fmB; rw [hf]; rfl
        exact ⟨e, by unfold fmM; rw [e]; rfl⟩)
    have G := Lib.hid hf
    clear hg hf
    go_enter Try.func24, Try.ntmps24
    go_wp2_with fail
    refine (ckGood_any _ _ _).mono ?_
    rintro e w1 ⟨rfl, n_w1⟩
    have N1 := Lib.hid (show New w w1 from New.trans (by repeat (first | with_reducible exact New.refl _ | with_reducible assumption | refine New.drewN ?_ _ | refine New.drew ?_ | refine New.alloc ?_ _ | refine New.setCell ?_ (by first | omega | (simp; omega) | (simp; done)) _ | (refine New.trans ?_ (by assumption)))) n_w1); clear n_w1
    rw [G.out]
    go_wp2
    go_ret2
    rw [HM.out.1, HM.out.2]
    exact ⟨rfl, N1.out⟩
end Go.Proofs.Ytnahlemchajfdaa
