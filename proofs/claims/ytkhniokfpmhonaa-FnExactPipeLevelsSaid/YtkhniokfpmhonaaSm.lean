/- IsTank, AreTanks and LevelOf: the model's and the program's. -/
import Derived.Test.YtkhniokfpmhonaaRatS
namespace Go.Proofs.Ytkhniokfpmhonaa
open Go.RowKit Go.IntWalk

def loM (t : Tk) : Int × Int := if tkB t then red (t.1 * t.2.1 + t.2.2) t.1 else (0, 0)
theorem loM_yes {a f u : Int} (h : tkB (a, f, u) = true) : loM (a, f, u) = red (a * f + u) a := by unfold loM; rw [if_pos h]
theorem loM_no {a f u : Int} (h : tkB (a, f, u) = false) : loM (a, f, u) = (0, 0) := by unfold loM; rw [h]; rfl

set_option maxRecDepth 100000 in
theorem leLevel_any (w : World) (a f u : Int) (ht : TkOk (a, f, u)) :
    Calls Try.prog 79 #[tkV a f u] w fun e w' => e = .returned (ratV (red (a * f + u) a)) ∧ New w w' := by
  have q1 := ht.a1; have q2 := ht.a2; have q3 := ht.f1; have q4 := ht.f2; have q5 := ht.w1; have q6 := ht.w2
  simp only at q1 q2 q3 q4 q5 q6
  have hm := mul_bd (show 0 ≤ a by omega) q2 q3 q4
  have hc : a * f + u = f * a + u := by rw [Int.mul_comm]
  have hm' : 0 ≤ f * a ∧ f * a ≤ 50 * 100 := by omega
  rw [hc]
  clear hc hm
  obtain ⟨hm1, hm2⟩ := hm'
  go_enter Try.func79, Try.ntmps79
  go_wp2_with fail
  refine (leRatio_any _ _ _ (by omega) (by omega) (by omega) (by omega)).mono ?_
  rintro e w1 ⟨rfl, n1⟩
  obtain ⟨c0, c1, f0, f1⟩ := pair_kept (p := ⟨w.heap.size + 1, 0, none⟩) (q := ⟨w.heap.size + 1, 1, none⟩) (x := .int .i64 0) (y := .int .i64 0) n1 (by simp [go_sem])
  have N1 := Lib.hid (show New w w1 from New.trans (by repeat (first | with_reducible exact New.refl _ | with_reducible assumption | refine New.drewN ?_ _ | refine New.drew ?_ | refine New.alloc ?_ _ | refine New.setCell ?_ (by first | omega | (simp; omega) | (simp; done)) _ | (refine New.trans ?_ (by assumption)))) n1); clear n1
  obtain ⟨p, hp⟩ : ∃ p, p = red (f * a + u) a := ⟨_, rfl⟩
  rw [← hp]
  have HP := Lib.hid hp; clear hp
  go_wp2
  refine bodyPost_ret (v := ratV p) (by simp [results, Try.results79, go_sem, c0, c1]) rfl ⟨by rw [HP.out], ?_⟩
  have := N1.out
  (repeat (first | with_reducible exact New.refl _ | with_reducible assumption | refine New.drewN ?_ _ | refine New.drew ?_ | refine New.alloc ?_ _ | refine New.setCell ?_ (by first | omega | (simp; omega) | (simp; done)) _ | (refine New.trans ?_ (by assumption))))
end Go.Proofs.Ytkhniokfpmhonaa
