/- LevelsOfClock: the model's and the program's. -/
import Derived.Test.YtnahlemchajfdaaTk2
import Derived.Test.YtnahlemchajfdaaLev
import Derived.Test.YtnahlemchajfdaaAll
import Derived.Deep.RegionHeld3
import Derived.Deep.DeepCutAuto
namespace Go.Proofs.Ytnahlemchajfdaa
open Go.Conc Go.RowKit Go.IntWalk Go.Proofs.Ytnahlemchajfdaa.Meta

def locM (L D : Int) : List Int := if ckB L D then levL D L else []
theorem locM_small (L D : Int) : (locM L D).length ≤ 1048576 := by
  unfold locM
  split
  · rename_i h
    have q := ckB_iff.1 h
    have := tim_le (D := D) (by omega) 1000 L (by omega) (by omega)
    show (levTo D L _).length ≤ _
    rw [levTo_length]; omega
  · simp

set_option maxRecDepth 100000 in
set_option maxHeartbeats 2000000 in
theorem sLevelsOfClock_any (w : World) (L D : Int) :
    Calls Try.prog 13 #[.agg #[.int .i64 L, .int .i64 D]] w fun e w' => ∃ oa n oc, e = .returned (.tuple #[.slice oa n oc, .bool (ckB L D)]) ∧ Own w' w.heap.size w'.heap.size oa n oc (locM L D) ∧ New w w' := by
  by_cases h : ckB L D = true
  · have q := ckB_iff.1 h
    have HM := Lib.hid (show locM L D = levL D L by unfold locM; rw [if_pos h])
    have ht := Lib.hid (tim_le (D := D) (by omega) 1000 L (by omega) (by omega))
    have H := Lib.hid h; clear h
    go_enter Try.func13, Try.ntmps13
    go_wp2_with fail
    refine (ckGood_any _ _ _).mono ?_
    rintro e w1 ⟨rfl, n_w1⟩
    have b0_w1 : w1.cell? ⟨w.heap.size, 0, none⟩ = some (.int .i64 L) := n_w1.cell (by simp [go_sem])
    have b1_w1 : w1.cell? ⟨w.heap.size, 1, none⟩ = some (.int .i64 D) := n_w1.cell (by simp [go_sem])
    have N1 := Lib.hid (show New w w1 from New.trans (by repeat (first | with_reducible exact New.refl _ | with_reducible assumption | refine New.drewN ?_ _ | refine New.drew ?_ | refine New.alloc ?_ _ | refine New.setCell ?_ (by first | omega | (simp; omega) | (simp; done)) _ | (refine New.trans ?_ (by assumption)))) n_w1); clear n_w1
    rw [H.out]
    go_wp2_with fail
    refine (ckLevels_any _ _ _ (by omega) (by omega) (by omega) (by omega)).mono ?_
    rintro e w2 ⟨oa, oc, rfl, own, n_w2⟩
    have N2 := Lib.hid (New.trans N1.out n_w2); clear n_w2
    have OW := Lib.hid own; clear own
    have q1 := N1.out.size
    have q2 := ht.out
    have q3 : ¬ (2001 : Int) < (tim D L + 1 : Nat) := by omega
    have q4 : ¬ (2001 : Int) < (tim D L : Int) + 1 := by omega
    clear q2
    go_wp2
    go_ret2
    rw [HM.out, H.out]
    exact ⟨_, _, _, rfl, Own.mono OW.out (by omega) (Nat.le_refl _), N2.out⟩
  · have hf := bool_nt h
    have HM := Lib.hid (show locM L D = [] by unfold locM; rw [hf]; rfl)
    have H := Lib.hid hf; clear h hf
    go_enter Try.func13, Try.ntmps13
    go_wp2_with fail
    refine (ckGood_any _ _ _).mono ?_
    rintro e w1 ⟨rfl, n_w1⟩
    have b0_w1 : w1.cell? ⟨w.heap.size, 0, none⟩ = some (.int .i64 L) := n_w1.cell (by simp [go_sem])
    have b1_w1 : w1.cell? ⟨w.heap.size, 1, none⟩ = some (.int .i64 D) := n_w1.cell (by simp [go_sem])
    have N1 := Lib.hid (show New w w1 from New.trans (by repeat (first | with_reducible exact New.refl _ | with_reducible assumption | refine New.drewN ?_ _ | refine New.drew ?_ | refine New.alloc ?_ _ | refine New.setCell ?_ (by first | omega | (simp; omega) | (simp; done)) _ | (refine New.trans ?_ (by assumption)))) n_w1); clear n_w1
    rw [H.out]
    go_wp2
    go_ret2
    rw [HM.out, H.out]
    exact ⟨_, _, _, rfl, Own.nil _ _ _, N1.out⟩
end Go.Proofs.Ytnahlemchajfdaa
