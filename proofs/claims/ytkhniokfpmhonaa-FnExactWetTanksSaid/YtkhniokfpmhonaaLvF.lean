/- CommonLevel: the model's and the program's. -/
import Derived.Test.YtkhniokfpmhonaaOrdC
namespace Go.Proofs.Ytkhniokfpmhonaa
open Go.RowKit Go.IntWalk

noncomputable def clM (T : List Tk) : Int × Int := if tksB T then comR T else (0, 0)
theorem clM_yes {T : List Tk} (h : tksB T = true) : clM T = comR T := by unfold clM; rw [if_pos h]
theorem clM_no {T : List Tk} (h : tksB T = false) : clM T = (0, 0) := by unfold clM; rw [h]; rfl

set_option maxRecDepth 100000 in
theorem sCommonLevel_any (w : World) (aa : Option Addr) (n ca : Nat) (T : List Tk) (ha : Tanks w aa n ca T) :
    Calls Try.prog 12 #[.slice aa n ca] w fun e w' => e = .returned (.tuple #[ratV (clM T), .bool (tksB T)]) ∧ New w w' := by
  have HA := Lib.hid ha; clear ha
  by_cases h : tksB T = true
  · have HC := Lib.hid (clM_yes h)
    have HB := Lib.hid h
    have HT := Lib.hid (tksB_iff.1 h); clear h
    go_enter Try.func12, Try.ntmps12
    go_wp2_with fail
    refine (leTanks_any _ _ _ _ T (HA.out.new (by repeat (first | with_reducible exact New.refl _ | with_reducible assumption | refine New.drewN ?_ _ | refine New.drew ?_ | refine New.alloc ?_ _ | refine New.setCell ?_ (by first | omega | (simp; omega) | (simp; done)) _ | (refine New.trans ?_ (by assumption)))))).mono ?_
    rintro e w1 ⟨rfl, n1⟩
    rw [HB.out]
    have cc := pair_kept (p := ⟨w.heap.size, 0, none⟩) (q := ⟨w.heap.size, 1, none⟩) (x := .int .i64 0) (y := .int .i64 0) n1 (by simp [go_sem])
    have N1 := Lib.hid (show New w w1 from New.trans (by repeat (first | with_reducible exact New.refl _ | with_reducible assumption | refine New.drewN ?_ _ | refine New.drew ?_ | refine New.alloc ?_ _ | refine New.setCell ?_ (by first | omega | (simp; omega) | (simp; done)) _ | (refine New.trans ?_ (by assumption)))) n1); clear n1
    go_wp2_with fail
    refine (leCommon_any _ _ _ _ T (HA.out.new N1.out) HT.out).mono ?_
    rintro e w2 ⟨rfl, n2⟩
    obtain ⟨c0, c1, f0, f1⟩ := pair_kept n2 cc
    have N2 := Lib.hid (N1.out.trans n2); clear n2 cc
    obtain ⟨p, hp⟩ : ∃ p, p = comR T := ⟨_, rfl⟩
    rw [← hp]
    rw [← hp] at HC
    clear hp
    go_wp2
    refine bodyPost_ret (v := .tuple #[ratV p, .bool true]) (by simp [results, Try.results12, go_sem, c0, c1]) rfl ⟨by rw [HC.out, HB.out], ?_⟩
    have := N2.out
    (repeat (first | with_reducible exact New.refl _ | with_reducible assumption | refine New.drewN ?_ _ | refine New.drew ?_ | refine New.alloc ?_ _ | refine New.setCell ?_ (by first | omega | (simp; omega) | (simp; done)) _ | (refine New.trans ?_ (by assumption))))
  · have hf := bool_no h
    have HC := Lib.hid (clM_no hf)
    have HB := Lib.hid hf; clear h hf
    go_enter Try.func12, Try.ntmps12
    go_wp2_with fail
    refine (leTanks_any _ _ _ _ T (HA.out.new (by repeat (first | with_reducible exact New.refl _ | with_reducible assumption | refine New.drewN ?_ _ | refine New.drew ?_ | refine New.alloc ?_ _ | refine New.setCell ?_ (by first | omega | (simp; omega) | (simp; done)) _ | (refine New.trans ?_ (by assumption)))))).mono ?_
    rintro e w1 ⟨rfl, n1⟩
    rw [HB.out]
    obtain ⟨c0, c1, f0, f1⟩ := pair_kept (p := ⟨w.heap.size, 0, none⟩) (q := ⟨w.heap.size, 1, none⟩) (x := .int .i64 0) (y := .int .i64 0) n1 (by simp [go_sem])
    have N1 := Lib.hid (show New w w1 from New.trans (by repeat (first | with_reducible exact New.refl _ | with_reducible assumption | refine New.drewN ?_ _ | refine New.drew ?_ | refine New.alloc ?_ _ | refine New.setCell ?_ (by first | omega | (simp; omega) | (simp; done)) _ | (refine New.trans ?_ (by assumption)))) n1); clear n1
    go_wp2
    refine bodyPost_ret (v := .tuple #[ratV (0, 0), .bool false]) (by simp [results, Try.results12, go_sem, c0, c1]) rfl ⟨by rw [HC.out, HB.out], ?_⟩
    have := N1.out
    (repeat (first | with_reducible exact New.refl _ | with_reducible assumption | refine New.drewN ?_ _ | refine New.drew ?_ | refine New.alloc ?_ _ | refine New.setCell ?_ (by first | omega | (simp; omega) | (simp; done)) _ | (refine New.trans ?_ (by assumption))))

set_option maxRecDepth 100000 in
theorem iCommonLevel_any (w : World) (aa : Option Addr) (n ca : Nat) (T : List Tk) (ha : Tanks w aa n ca T) :
    Calls Try.prog 14 #[.slice aa n ca] w fun e w' => e = .returned (.tuple #[ratV (clM T), .bool (tksB T)]) ∧ New w w' := by
  have HA := Lib.hid ha; clear ha
  by_cases h : tksB T = true
  · have HC := Lib.hid (clM_yes h)
    have HB := Lib.hid h
    have HT := Lib.hid (tksB_iff.1 h); clear h
    go_enter Try.func14, Try.ntmps14
    go_wp2_with fail
    refine (iAreTanks_any _ _ _ _ T (HA.out.new (by repeat (first | with_reducible exact New.refl _ | with_reducible assumption | refine New.drewN ?_ _ | refine New.drew ?_ | refine New.alloc ?_ _ | refine New.setCell ?_ (by first | omega | (simp; omega) | (simp; done)) _ | (refine New.trans ?_ (by assumption)))))).mono ?_
    rintro e w1 ⟨rfl, n1⟩
    rw [HB.out]
    have cc := pair_kept (p := ⟨w.heap.size, 0, none⟩) (q := ⟨w.heap.size, 1, none⟩) (x := .int .i64 0) (y := .int .i64 0) n1 (by simp [go_sem])
    have N1 := Lib.hid (show New w w1 from New.trans (by repeat (first | with_reducible exact New.refl _ | with_reducible assumption | refine New.drewN ?_ _ | refine New.drew ?_ | refine New.alloc ?_ _ | refine New.setCell ?_ (by first | omega | (simp; omega) | (simp; done)) _ | (refine New.trans ?_ (by assumption)))) n1); clear n1
    go_wp2_with fail
    refine (commonLevel_any _ _ _ _ T (HA.out.new N1.out) HT.out).mono ?_
    rintro e w2 ⟨rfl, n2⟩
    obtain ⟨c0, c1, f0, f1⟩ := pair_kept n2 cc
    have N2 := Lib.hid (N1.out.trans n2); clear n2 cc
    obtain ⟨p, hp⟩ : ∃ p, p = comR T := ⟨_, rfl⟩
    rw [← hp]
    rw [← hp] at HC
    clear hp
    go_wp2
    refine bodyPost_ret (v := .tuple #[ratV p, .bool true]) (by simp [results, Try.results14, go_sem, c0, c1]) rfl ⟨by rw [HC.out, HB.out], ?_⟩
    have := N2.out
    (repeat (first | with_reducible exact New.refl _ | with_reducible assumption | refine New.drewN ?_ _ | refine New.drew ?_ | refine New.alloc ?_ _ | refine New.setCell ?_ (by first | omega | (simp; omega) | (simp; done)) _ | (refine New.trans ?_ (by assumption))))
  · have hf := bool_no h
    have HC := Lib.hid (clM_no hf)
    have HB := Lib.hid hf; clear h hf
    go_enter Try.func14, Try.ntmps14
    go_wp2_with fail
    refine (iAreTanks_any _ _ _ _ T (HA.out.new (by repeat (first | with_reducible exact New.refl _ | with_reducible assumption | refine New.drewN ?_ _ | refine New.drew ?_ | refine New.alloc ?_ _ | refine New.setCell ?_ (by first | omega | (simp; omega) | (simp; done)) _ | (refine New.trans ?_ (by assumption)))))).mono ?_
    rintro e w1 ⟨rfl, n1⟩
    rw [HB.out]
    obtain ⟨c0, c1, f0, f1⟩ := pair_kept (p := ⟨w.heap.size, 0, none⟩) (q := ⟨w.heap.size, 1, none⟩) (x := .int .i64 0) (y := .int .i64 0) n1 (by simp [go_sem])
    have N1 := Lib.hid (show New w w1 from New.trans (by repeat (first | with_reducible exact New.refl _ | with_reducible assumption | refine New.drewN ?_ _ | refine New.drew ?_ | refine New.alloc ?_ _ | refine New.setCell ?_ (by first | omega | (simp; omega) | (simp; done)) _ | (refine New.trans ?_ (by assumption)))) n1); clear n1
    go_wp2
    refine bodyPost_ret (v := .tuple #[ratV (0, 0), .bool false]) (by simp [results, Try.results14, go_sem, c0, c1]) rfl ⟨by rw [HC.out, HB.out], ?_⟩
    have := N1.out
    (repeat (first | with_reducible exact New.refl _ | with_reducible assumption | refine New.drewN ?_ _ | refine New.drew ?_ | refine New.alloc ?_ _ | refine New.setCell ?_ (by first | omega | (simp; omega) | (simp; done)) _ | (refine New.trans ?_ (by assumption))))
end Go.Proofs.Ytkhniokfpmhonaa
