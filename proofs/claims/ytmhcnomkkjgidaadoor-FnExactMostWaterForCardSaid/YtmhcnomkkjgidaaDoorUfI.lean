/- The program's functions of traffic: RunShips, StretchChanges, FillingsOf. -/
import Derived.Test.YtmhcnomkkjgidaaDoorUfM
import Derived.Test.YtmhcnomkkjgidaaDoorUsI
namespace Go.Proofs.YtmhcnomkkjgidaaDoor
open Go.RowKit

theorem Res2.stored {w : World} {B : Nat} (h : Res2 w B) (x y : Value) (o : Obj) : (((w.setCell ⟨B, 0, none⟩ x).setCell ⟨B, 1, none⟩ y).alloc o).cell? ⟨B, 0, none⟩ = some x ∧ (((w.setCell ⟨B, 0, none⟩ x).setCell ⟨B, 1, none⟩ y).alloc o).cell? ⟨B, 1, none⟩ = some y :=
  ⟨World.cell_kept (by rw [set_other (by simp)]; exact set_same h.r0), World.cell_kept (by refine set_same (u := .slice none 0 0) ?_; rw [set_other (by simp)]; exact h.r1)⟩
set_option maxRecDepth 100000 in
set_option maxHeartbeats 1000000 in
theorem iRunShips_any (w : World) (aa ab : Option Addr) (n m ca cb : Nat) (L : List Int) (F : List Bool) (s : ByteArray) (hs : s.size ≤ 1048576) (h1 : Ints w aa n ca L) (h2 : Bools w ab m cb F) :
    Calls Tryd.prog 15 #[.agg #[.slice aa n ca, .slice ab m cb], .string s] w (RetFl w (rssM L F s).1 (rssM L F s).2 (usB L F s)) := by
  have HA := Lib.hid h1; clear h1
  have HB := Lib.hid h2; clear h2
  cases hg : usB L F s
  case false =>
    rw [rssM_no hg]
    have HG := Lib.hid hg; clear hg
    go_enter Tryd.func15, Tryd.ntmps15
    go_wp2_with fail
    refine (usedBy_bad _ _ _ _ _ _ _ L F s hs (HA.out.new (by repeat (first | with_reducible exact New.refl _ | with_reducible assumption | refine New.drewN ?_ _ | refine New.drew ?_ | refine New.alloc ?_ _ | refine New.setCell ?_ (by first | omega | (simp; omega) | (simp; done)) _ | (refine New.trans ?_ (by assumption))))) (HB.out.new (by repeat (first | with_reducible exact New.refl _ | with_reducible assumption | refine New.drewN ?_ _ | refine New.drew ?_ | refine New.alloc ?_ _ | refine New.setCell ?_ (by first | omega | (simp; omega) | (simp; done)) _ | (refine New.trans ?_ (by assumption))))) HG.out).mono ?_
    rintro e w1 ⟨rfl, n1⟩
    have RS : Hid (Res2 w1 (w.heap.size + 1)) := Lib.hid ⟨n1.cell (by simp [go_sem]), n1.cell (by simp [go_sem]), n1.frz (v := .slice none 0 0) (by simp [go_sem]) (by simp [go_sem]), n1.frz (v := .slice none 0 0) (by simp [go_sem]) (by simp [go_sem])⟩
    have zlt := RS.out.lt
    have NW := Lib.hid (show New w w1 from New.trans (by repeat (first | with_reducible exact New.refl _ | with_reducible assumption | refine New.drewN ?_ _ | refine New.drew ?_ | refine New.alloc ?_ _ | refine New.setCell ?_ (by first | omega | (simp; omega) | (simp; done)) _ | (refine New.trans ?_ (by assumption)))) n1); clear n1
    obtain ⟨r0, r1, f0, f1⟩ := RS.out
    go_wp2
    refine bodyPost_ret (v := .tuple #[.agg #[.slice none 0 0, .slice none 0 0], .bool false]) (by simp [results, Tryd.results15, go_sem, (RS.out.stored _ _ _).1, (RS.out.stored _ _ _).2]) rfl ⟨none, 0, 0, none, 0, 0, rfl, OwnF.nil _ _ _, ((NW.out.setCell (by first | omega | (simp; omega) | (simp; done)) _).setCell (by first | omega | (simp; omega) | (simp; done)) _).alloc _⟩
  case true =>
    rw [rssM_yes hg]
    have HG := Lib.hid hg; clear hg
    go_enter Tryd.func15, Tryd.ntmps15
    go_wp2_with fail
    refine (usedBy_any _ _ _ _ _ _ _ L F s (HA.out.new (by repeat (first | with_reducible exact New.refl _ | with_reducible assumption | refine New.drewN ?_ _ | refine New.drew ?_ | refine New.alloc ?_ _ | refine New.setCell ?_ (by first | omega | (simp; omega) | (simp; done)) _ | (refine New.trans ?_ (by assumption))))) (HB.out.new (by repeat (first | with_reducible exact New.refl _ | with_reducible assumption | refine New.drewN ?_ _ | refine New.drew ?_ | refine New.alloc ?_ _ | refine New.setCell ?_ (by first | omega | (simp; omega) | (simp; done)) _ | (refine New.trans ?_ (by assumption))))) HG.out).mono ?_
    rintro e w1 ⟨b1, c1, bf, cf, bc, bn, rfl, rows, n1⟩
    have RW := Lib.hid rows; clear rows
    have RS : Hid (Res2 w1 (w.heap.size + 1)) := Lib.hid ⟨n1.cell (by simp [go_sem]), n1.cell (by simp [go_sem]), n1.frz (v := .slice none 0 0) (by simp [go_sem]) (by simp [go_sem]), n1.frz (v := .slice none 0 0) (by simp [go_sem]) (by simp [go_sem])⟩
    have zlt := RS.out.lt
    have NW := Lib.hid (show New w w1 from New.trans (by repeat (first | with_reducible exact New.refl _ | with_reducible assumption | refine New.drewN ?_ _ | refine New.drew ?_ | refine New.alloc ?_ _ | refine New.setCell ?_ (by first | omega | (simp; omega) | (simp; done)) _ | (refine New.trans ?_ (by assumption)))) n1); clear n1
    obtain ⟨r0, r1, f0, f1⟩ := RS.out
    have hlo := RW.out.lo
    (try simp only [World.size_alloc] at hlo)
    go_wp2
    refine bodyPost_ret (v := .tuple #[.agg #[.slice (some ⟨b1, 0, none⟩) L.length c1, .slice (some ⟨bf, 0, none⟩) L.length cf], .bool true]) (by simp [results, Tryd.results15, go_sem, (RS.out.stored _ _ _).1, (RS.out.stored _ _ _).2]) rfl ⟨_, _, _, _, _, _, rfl, ?_, ((NW.out.setCell (by first | omega | (simp; omega) | (simp; done)) _).setCell (by first | omega | (simp; omega) | (simp; done)) _).alloc _⟩
    have q := (((RW.out.setCell (p := ⟨w.heap.size + 1, 0, none⟩) ?_ (.slice (some ⟨b1, 0, none⟩) L.length c1)).setCell (p := ⟨w.heap.size + 1, 1, none⟩) ?_ (.slice (some ⟨bf, 0, none⟩) L.length cf)).new ((New.refl _).alloc (.cells #[.slice (some ⟨b1, 0, none⟩) L.length c1, .slice (some ⟨bf, 0, none⟩) L.length cf, .slice (some ⟨bc, 0, none⟩) (L.length + 1) (L.length + 1), .slice (some ⟨bn, 0, none⟩) L.length L.length] 52))).flight
    · exact q.mono (by simp; omega) (Nat.le_refl _)
    · dsimp only; omega
    · dsimp only; omega
set_option maxRecDepth 100000 in
set_option maxHeartbeats 1000000 in
theorem iStretchChanges_any (w : World) (aa ab : Option Addr) (n m ca cb : Nat) (L : List Int) (F : List Bool) (s : ByteArray) (hs : s.size ≤ 1048576) (h1 : Ints w aa n ca L) (h2 : Bools w ab m cb F) :
    Calls Tryd.prog 20 #[.agg #[.slice aa n ca, .slice ab m cb], .string s] w (RetIs w (chgM L F s) (usB L F s)) := by
  have HA := Lib.hid h1; clear h1
  have HB := Lib.hid h2; clear h2
  cases hg : usB L F s
  case false =>
    rw [chgM_no hg]
    have HG := Lib.hid hg; clear hg
    go_enter Tryd.func20, Tryd.ntmps20
    go_wp2_with fail
    refine (usedBy_bad _ _ _ _ _ _ _ L F s hs (HA.out.new (by repeat (first | with_reducible exact New.refl _ | with_reducible assumption | refine New.drewN ?_ _ | refine New.drew ?_ | refine New.alloc ?_ _ | refine New.setCell ?_ (by first | omega | (simp; omega) | (simp; done)) _ | (refine New.trans ?_ (by assumption))))) (HB.out.new (by repeat (first | with_reducible exact New.refl _ | with_reducible assumption | refine New.drewN ?_ _ | refine New.drew ?_ | refine New.alloc ?_ _ | refine New.setCell ?_ (by first | omega | (simp; omega) | (simp; done)) _ | (refine New.trans ?_ (by assumption))))) HG.out).mono ?_
    rintro e w1 ⟨rfl, n1⟩
    have NW := Lib.hid (show New w w1 from New.trans (by repeat (first | with_reducible exact New.refl _ | with_reducible assumption | refine New.drewN ?_ _ | refine New.drew ?_ | refine New.alloc ?_ _ | refine New.setCell ?_ (by first | omega | (simp; omega) | (simp; done)) _ | (refine New.trans ?_ (by assumption)))) n1); clear n1
    go_wp2
    go_ret2
    exact ⟨none, 0, 0, rfl, Own.nil0 _ _ _, NW.out.alloc _⟩
  case true =>
    rw [chgM_yes hg]
    have HG := Lib.hid hg; clear hg
    go_enter Tryd.func20, Tryd.ntmps20
    go_wp2_with fail
    refine (usedBy_any _ _ _ _ _ _ _ L F s (HA.out.new (by repeat (first | with_reducible exact New.refl _ | with_reducible assumption | refine New.drewN ?_ _ | refine New.drew ?_ | refine New.alloc ?_ _ | refine New.setCell ?_ (by first | omega | (simp; omega) | (simp; done)) _ | (refine New.trans ?_ (by assumption))))) (HB.out.new (by repeat (first | with_reducible exact New.refl _ | with_reducible assumption | refine New.drewN ?_ _ | refine New.drew ?_ | refine New.alloc ?_ _ | refine New.setCell ?_ (by first | omega | (simp; omega) | (simp; done)) _ | (refine New.trans ?_ (by assumption))))) HG.out).mono ?_
    rintro e w1 ⟨b1, c1, bf, cf, bc, bn, rfl, rows, n1⟩
    have RW := Lib.hid rows; clear rows
    have NW := Lib.hid (show New w w1 from New.trans (by repeat (first | with_reducible exact New.refl _ | with_reducible assumption | refine New.drewN ?_ _ | refine New.drew ?_ | refine New.alloc ?_ _ | refine New.setCell ?_ (by first | omega | (simp; omega) | (simp; done)) _ | (refine New.trans ?_ (by assumption)))) n1); clear n1
    have hlo := RW.out.lo
    have hhi := RW.out.hi
    (try simp only [World.size_alloc] at hlo)
    go_wp2
    go_ret2
    exact ⟨_, _, _, rfl, (RW.out.new ((New.refl _).alloc _)).rc.mono (by omega) (by simp; omega), NW.out.alloc _⟩
set_option maxRecDepth 100000 in
set_option maxHeartbeats 1000000 in
theorem iFillingsOf_any (w : World) (aa ab : Option Addr) (n m ca cb : Nat) (L : List Int) (F : List Bool) (s : ByteArray) (hs : s.size ≤ 1048576) (h1 : Ints w aa n ca L) (h2 : Bools w ab m cb F) :
    Calls Tryd.prog 27 #[.agg #[.slice aa n ca, .slice ab m cb], .string s] w (RetIs w (fgsM L F s) (usB L F s)) := by
  have HA := Lib.hid h1; clear h1
  have HB := Lib.hid h2; clear h2
  cases hg : usB L F s
  case false =>
    rw [fgsM_no hg]
    have HG := Lib.hid hg; clear hg
    go_enter Tryd.func27, Tryd.ntmps27
    go_wp2_with fail
    refine (usedBy_bad _ _ _ _ _ _ _ L F s hs (HA.out.new (by repeat (first | with_reducible exact New.refl _ | with_reducible assumption | refine New.drewN ?_ _ | refine New.drew ?_ | refine New.alloc ?_ _ | refine New.setCell ?_ (by first | omega | (simp; omega) | (simp; done)) _ | (refine New.trans ?_ (by assumption))))) (HB.out.new (by repeat (first | with_reducible exact New.refl _ | with_reducible assumption | refine New.drewN ?_ _ | refine New.drew ?_ | refine New.alloc ?_ _ | refine New.setCell ?_ (by first | omega | (simp; omega) | (simp; done)) _ | (refine New.trans ?_ (by assumption))))) HG.out).mono ?_
    rintro e w1 ⟨rfl, n1⟩
    have NW := Lib.hid (show New w w1 from New.trans (by repeat (first | with_reducible exact New.refl _ | with_reducible assumption | refine New.drewN ?_ _ | refine New.drew ?_ | refine New.alloc ?_ _ | refine New.setCell ?_ (by first | omega | (simp; omega) | (simp; done)) _ | (refine New.trans ?_ (by assumption)))) n1); clear n1
    go_wp2
    go_ret2
    exact ⟨none, 0, 0, rfl, Own.nil0 _ _ _, NW.out.alloc _⟩
  case true =>
    rw [fgsM_yes hg]
    have HG := Lib.hid hg; clear hg
    go_enter Tryd.func27, Tryd.ntmps27
    go_wp2_with fail
    refine (usedBy_any _ _ _ _ _ _ _ L F s (HA.out.new (by repeat (first | with_reducible exact New.refl _ | with_reducible assumption | refine New.drewN ?_ _ | refine New.drew ?_ | refine New.alloc ?_ _ | refine New.setCell ?_ (by first | omega | (simp; omega) | (simp; done)) _ | (refine New.trans ?_ (by assumption))))) (HB.out.new (by repeat (first | with_reducible exact New.refl _ | with_reducible assumption | refine New.drewN ?_ _ | refine New.drew ?_ | refine New.alloc ?_ _ | refine New.setCell ?_ (by first | omega | (simp; omega) | (simp; done)) _ | (refine New.trans ?_ (by assumption))))) HG.out).mono ?_
    rintro e w1 ⟨b1, c1, bf, cf, bc, bn, rfl, rows, n1⟩
    have RW := Lib.hid rows; clear rows
    have NW := Lib.hid (show New w w1 from New.trans (by repeat (first | with_reducible exact New.refl _ | with_reducible assumption | refine New.drewN ?_ _ | refine New.drew ?_ | refine New.alloc ?_ _ | refine New.setCell ?_ (by first | omega | (simp; omega) | (simp; done)) _ | (refine New.trans ?_ (by assumption)))) n1); clear n1
    have hlo := RW.out.lo
    have hhi := RW.out.hi
    (try simp only [World.size_alloc] at hlo)
    go_wp2
    go_ret2
    exact ⟨_, _, _, rfl, (RW.out.new ((New.refl _).alloc _)).rn.mono (by omega) (by simp; omega), NW.out.alloc _⟩
end Go.Proofs.YtmhcnomkkjgidaaDoor
