/- IsTank, AreTanks and LevelOf: the model's and the program's. -/
import Derived.Test.YtklfelbolblgfaaRatS
namespace Go.Proofs.Ytklfelbolblgfaa
open Go.RowKit Go.IntWalk

theorem sIsTank_any (w : World) (a f u : Int) :
    Calls Try.prog 12 #[tkV a f u] w fun e w' => e = .returned (.bool (tkB (a, f, u))) ∧ New w w' := by
  go_enter Try.func12, Try.ntmps12
  go_wp2_with fail
  refine (leTank_any _ _ _ _).mono ?_
  rintro e w1 ⟨rfl, n1⟩
  go_wp2
  go_ret
  exact ⟨rfl, New.trans (by repeat (first | with_reducible exact New.refl _ | with_reducible assumption | refine New.drewN ?_ _ | refine New.drew ?_ | refine New.alloc ?_ _ | refine New.setCell ?_ (by first | omega | (simp; omega) | (simp; done)) _ | (refine New.trans ?_ (by assumption)))) n1⟩

theorem sAreTanks_any (w : World) (aa : Option Addr) (n ca : Nat) (T : List Tk) (ha : Tanks w aa n ca T) :
    Calls Try.prog 19 #[.slice aa n ca] w fun e w' => e = .returned (.bool (tksB T)) ∧ New w w' := by
  have HA := Lib.hid ha; clear ha
  go_enter Try.func19, Try.ntmps19
  go_wp2_with fail
  refine (leTanks_any _ _ _ _ T HA.out).mono ?_
  rintro e w1 ⟨rfl, n1⟩
  go_wp2
  go_ret
  exact ⟨rfl, n1⟩

def loM (t : Tk) : Int × Int := if tkB t then red (t.1 * t.2.1 + t.2.2) t.1 else (0, 0)
theorem loM_yes {a f u : Int} (h : tkB (a, f, u) = true) : loM (a, f, u) = red (a * f + u) a := by unfold loM; rw [if_pos h]
theorem loM_no {a f u : Int} (h : tkB (a, f, u) = false) : loM (a, f, u) = (0, 0) := by unfold loM; rw [h]; rfl

set_option maxRecDepth 100000 in
theorem leLevel_any (w : World) (a f u : Int) (ht : TkOk (a, f, u)) :
    Calls Try.prog 46 #[tkV a f u] w fun e w' => e = .returned (ratV (red (a * f + u) a)) ∧ New w w' := by
  have q1 := ht.a1; have q2 := ht.a2; have q3 := ht.f1; have q4 := ht.f2; have q5 := ht.w1; have q6 := ht.w2
  simp only at q1 q2 q3 q4 q5 q6
  have hm := mul_bd (show 0 ≤ a by omega) q2 q3 q4
  have hc : a * f + u = f * a + u := by rw [Int.mul_comm]
  have hm' : 0 ≤ f * a ∧ f * a ≤ 50 * 100 := by omega
  rw [hc]
  clear hc hm
  obtain ⟨hm1, hm2⟩ := hm'
  go_enter Try.func46, Try.ntmps46
  go_wp2_with fail
  refine (leRatio_any _ _ _ (by omega) (by omega) (by omega) (by omega)).mono ?_
  rintro e w1 ⟨rfl, n1⟩
  obtain ⟨c0, c1, f0, f1⟩ := pair_kept (p := ⟨w.heap.size + 1, 0, none⟩) (q := ⟨w.heap.size + 1, 1, none⟩) (x := .int .i64 0) (y := .int .i64 0) n1 (by simp [go_sem])
  have N1 := Lib.hid (show New w w1 from New.trans (by repeat (first | with_reducible exact New.refl _ | with_reducible assumption | refine New.drewN ?_ _ | refine New.drew ?_ | refine New.alloc ?_ _ | refine New.setCell ?_ (by first | omega | (simp; omega) | (simp; done)) _ | (refine New.trans ?_ (by assumption)))) n1); clear n1
  obtain ⟨p, hp⟩ : ∃ p, p = red (f * a + u) a := ⟨_, rfl⟩
  rw [← hp]
  have HP := Lib.hid hp; clear hp
  go_wp2
  refine bodyPost_ret (v := ratV p) (by simp [results, Try.results46, go_sem, c0, c1]) rfl ⟨by rw [HP.out], ?_⟩
  have := N1.out
  (repeat (first | with_reducible exact New.refl _ | with_reducible assumption | refine New.drewN ?_ _ | refine New.drew ?_ | refine New.alloc ?_ _ | refine New.setCell ?_ (by first | omega | (simp; omega) | (simp; done)) _ | (refine New.trans ?_ (by assumption))))

set_option maxRecDepth 100000 in
theorem sLevelOf_any (w : World) (a f u : Int) :
    Calls Try.prog 15 #[tkV a f u] w fun e w' => e = .returned (.tuple #[ratV (loM (a, f, u)), .bool (tkB (a, f, u))]) ∧ New w w' := by
  by_cases h : tkB (a, f, u) = true
  · have HM := Lib.hid (loM_yes h)
    have HB := Lib.hid h
    have HT := Lib.hid (tkB_iff.1 h); clear h
    go_enter Try.func15, Try.ntmps15
    go_wp2_with fail
    refine (leTank_any _ _ _ _).mono ?_
    rintro e w1 ⟨rfl, n1⟩
    rw [HB.out]
    have cc := pair_kept (p := ⟨w.heap.size + 1, 0, none⟩) (q := ⟨w.heap.size + 1, 1, none⟩) (x := .int .i64 0) (y := .int .i64 0) n1 (by simp [go_sem])
    have t0 : w1.cell? ⟨w.heap.size, 0, none⟩ = some (.int .i64 a) := n1.cell (by simp [go_sem])
    have t1 : w1.cell? ⟨w.heap.size, 1, none⟩ = some (.int .i64 f) := n1.cell (by simp [go_sem])
    have t2 : w1.cell? ⟨w.heap.size, 2, none⟩ = some (.int .i64 u) := n1.cell (by simp [go_sem])
    have N1 := Lib.hid (show New w w1 from New.trans (by repeat (first | with_reducible exact New.refl _ | with_reducible assumption | refine New.drewN ?_ _ | refine New.drew ?_ | refine New.alloc ?_ _ | refine New.setCell ?_ (by first | omega | (simp; omega) | (simp; done)) _ | (refine New.trans ?_ (by assumption)))) n1); clear n1
    go_wp2_with fail
    refine (leLevel_any _ _ _ _ HT.out).mono ?_
    rintro e w2 ⟨rfl, n2⟩
    obtain ⟨c0, c1, f0, f1⟩ := pair_kept n2 cc
    have N2 := Lib.hid (N1.out.trans n2); clear n2 cc t0 t1 t2
    obtain ⟨p, hp⟩ : ∃ p, p = red (a * f + u) a := ⟨_, rfl⟩
    rw [← hp]
    rw [← hp] at HM
    clear hp
    go_wp2
    refine bodyPost_ret (v := .tuple #[ratV p, .bool true]) (by simp [results, Try.results15, go_sem, c0, c1]) rfl ⟨by rw [HM.out, HB.out], ?_⟩
    have := N2.out
    (repeat (first | with_reducible exact New.refl _ | with_reducible assumption | refine New.drewN ?_ _ | refine New.drew ?_ | refine New.alloc ?_ _ | refine New.setCell ?_ (by first | omega | (simp; omega) | (simp; done)) _ | (refine New.trans ?_ (by assumption))))
  · have hf := bool_no h
    have HM := Lib.hid (loM_no hf)
    have HB := Lib.hid hf; clear h hf
    go_enter Try.func15, Try.ntmps15
    go_wp2_with fail
    refine (leTank_any _ _ _ _).mono ?_
    rintro e w1 ⟨rfl, n1⟩
    rw [HB.out]
    obtain ⟨c0, c1, f0, f1⟩ := pair_kept (p := ⟨w.heap.size + 1, 0, none⟩) (q := ⟨w.heap.size + 1, 1, none⟩) (x := .int .i64 0) (y := .int .i64 0) n1 (by simp [go_sem])
    have N1 := Lib.hid (show New w w1 from New.trans (by repeat (first | with_reducible exact New.refl _ | with_reducible assumption | refine New.drewN ?_ _ | refine New.drew ?_ | refine New.alloc ?_ _ | refine New.setCell ?_ (by first | omega | (simp; omega) | (simp; done)) _ | (refine New.trans ?_ (by assumption)))) n1); clear n1
    go_wp2
    refine bodyPost_ret (v := .tuple #[ratV (0, 0), .bool false]) (by simp [results, Try.results15, go_sem, c0, c1]) rfl ⟨by rw [HM.out, HB.out], ?_⟩
    have := N1.out
    (repeat (first | with_reducible exact New.refl _ | with_reducible assumption | refine New.drewN ?_ _ | refine New.drew ?_ | refine New.alloc ?_ _ | refine New.setCell ?_ (by first | omega | (simp; omega) | (simp; done)) _ | (refine New.trans ?_ (by assumption))))

set_option maxRecDepth 100000 in
theorem iLevelOf_any (w : World) (a f u : Int) :
    Calls Try.prog 16 #[tkV a f u] w fun e w' => e = .returned (.tuple #[ratV (loM (a, f, u)), .bool (tkB (a, f, u))]) ∧ New w w' := by
  by_cases h : tkB (a, f, u) = true
  · have HM := Lib.hid (loM_yes h)
    have HB := Lib.hid h
    have HT := Lib.hid (tkB_iff.1 h); clear h
    go_enter Try.func16, Try.ntmps16
    go_wp2_with fail
    refine (iIsTank_any _ _ _ _).mono ?_
    rintro e w1 ⟨rfl, n1⟩
    rw [HB.out]
    have cc := pair_kept (p := ⟨w.heap.size + 1, 0, none⟩) (q := ⟨w.heap.size + 1, 1, none⟩) (x := .int .i64 0) (y := .int .i64 0) n1 (by simp [go_sem])
    have t0 : w1.cell? ⟨w.heap.size, 0, none⟩ = some (.int .i64 a) := n1.cell (by simp [go_sem])
    have t1 : w1.cell? ⟨w.heap.size, 1, none⟩ = some (.int .i64 f) := n1.cell (by simp [go_sem])
    have t2 : w1.cell? ⟨w.heap.size, 2, none⟩ = some (.int .i64 u) := n1.cell (by simp [go_sem])
    have N1 := Lib.hid (show New w w1 from New.trans (by repeat (first | with_reducible exact New.refl _ | with_reducible assumption | refine New.drewN ?_ _ | refine New.drew ?_ | refine New.alloc ?_ _ | refine New.setCell ?_ (by first | omega | (simp; omega) | (simp; done)) _ | (refine New.trans ?_ (by assumption)))) n1); clear n1
    go_wp2_with fail
    refine (level_any _ _ _ _ HT.out).mono ?_
    rintro e w2 ⟨rfl, n2⟩
    obtain ⟨c0, c1, f0, f1⟩ := pair_kept n2 cc
    have N2 := Lib.hid (N1.out.trans n2); clear n2 cc t0 t1 t2
    obtain ⟨p, hp⟩ : ∃ p, p = red (a * f + u) a := ⟨_, rfl⟩
    rw [← hp]
    rw [← hp] at HM
    clear hp
    go_wp2
    refine bodyPost_ret (v := .tuple #[ratV p, .bool true]) (by simp [results, Try.results16, go_sem, c0, c1]) rfl ⟨by rw [HM.out, HB.out], ?_⟩
    have := N2.out
    (repeat (first | with_reducible exact New.refl _ | with_reducible assumption | refine New.drewN ?_ _ | refine New.drew ?_ | refine New.alloc ?_ _ | refine New.setCell ?_ (by first | omega | (simp; omega) | (simp; done)) _ | (refine New.trans ?_ (by assumption))))
  · have hf := bool_no h
    have HM := Lib.hid (loM_no hf)
    have HB := Lib.hid hf; clear h hf
    go_enter Try.func16, Try.ntmps16
    go_wp2_with fail
    refine (iIsTank_any _ _ _ _).mono ?_
    rintro e w1 ⟨rfl, n1⟩
    rw [HB.out]
    obtain ⟨c0, c1, f0, f1⟩ := pair_kept (p := ⟨w.heap.size + 1, 0, none⟩) (q := ⟨w.heap.size + 1, 1, none⟩) (x := .int .i64 0) (y := .int .i64 0) n1 (by simp [go_sem])
    have N1 := Lib.hid (show New w w1 from New.trans (by repeat (first | with_reducible exact New.refl _ | with_reducible assumption | refine New.drewN ?_ _ | refine New.drew ?_ | refine New.alloc ?_ _ | refine New.setCell ?_ (by first | omega | (simp; omega) | (simp; done)) _ | (refine New.trans ?_ (by assumption)))) n1); clear n1
    go_wp2
    refine bodyPost_ret (v := .tuple #[ratV (0, 0), .bool false]) (by simp [results, Try.results16, go_sem, c0, c1]) rfl ⟨by rw [HM.out, HB.out], ?_⟩
    have := N1.out
    (repeat (first | with_reducible exact New.refl _ | with_reducible assumption | refine New.drewN ?_ _ | refine New.drew ?_ | refine New.alloc ?_ _ | refine New.setCell ?_ (by first | omega | (simp; omega) | (simp; done)) _ | (refine New.trans ?_ (by assumption))))
end Go.Proofs.Ytklfelbolblgfaa
