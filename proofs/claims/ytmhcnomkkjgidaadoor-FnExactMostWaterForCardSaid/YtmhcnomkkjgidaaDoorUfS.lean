/- The model's functions of traffic: RunShips, StretchChanges, FillingsOf. -/
import Derived.Test.YtmhcnomkkjgidaaDoorUfM
namespace Go.Proofs.YtmhcnomkkjgidaaDoor
open Go.RowKit
set_option maxRecDepth 100000 in
set_option maxHeartbeats 1000000 in
theorem sRunShips_any (w : World) (aa ab : Option Addr) (n m ca cb : Nat) (L : List Int) (F : List Bool) (s : ByteArray) (hs : s.size ≤ 1048576) (h1 : Ints w aa n ca L) (h2 : Bools w ab m cb F) :
    Calls Tryd.prog 13 #[.agg #[.slice aa n ca, .slice ab m cb], .string s] w (RetFl w (rssM L F s).1 (rssM L F s).2 (usB L F s)) := by
  have HA := Lib.hid h1; clear h1
  have HB := Lib.hid h2; clear h2
  cases hg : usB L F s
  case false =>
    rw [rssM_no hg]
    have HG := Lib.hid hg; clear hg
    go_enter Tryd.func13, Tryd.ntmps13
    go_wp2_with fail
    refine (loAsked_any _ _ _ _ _ _ _ L F s hs (HA.out.new (by repeat (first | with_reducible exact New.refl _ | with_reducible assumption | refine New.drewN ?_ _ | refine New.drew ?_ | refine New.alloc ?_ _ | refine New.setCell ?_ (by first | omega | (simp; omega) | (simp; done)) _ | (refine New.trans ?_ (by assumption))))) (HB.out.new (by repeat (first | with_reducible exact New.refl _ | with_reducible assumption | refine New.drewN ?_ _ | refine New.drew ?_ | refine New.alloc ?_ _ | refine New.setCell ?_ (by first | omega | (simp; omega) | (simp; done)) _ | (refine New.trans ?_ (by assumption)))))).mono ?_
    rintro e w1 ⟨rfl, n1⟩
    have a0 : w1.cell? ⟨w.heap.size, 0, none⟩ = some (.slice aa n ca) := n1.cell (by simp [go_sem])
    have a1 : w1.cell? ⟨w.heap.size, 1, none⟩ = some (.slice ab m cb) := n1.cell (by simp [go_sem])
    have RS : Hid (Res2 w1 (w.heap.size + 1)) := Lib.hid ⟨n1.cell (by simp [go_sem]), n1.cell (by simp [go_sem]), n1.frz (v := .slice none 0 0) (by simp [go_sem]) (by simp [go_sem]), n1.frz (v := .slice none 0 0) (by simp [go_sem]) (by simp [go_sem])⟩
    have NW := Lib.hid (show New w w1 from New.trans (by repeat (first | with_reducible exact New.refl _ | with_reducible assumption | refine New.drewN ?_ _ | refine New.drew ?_ | refine New.alloc ?_ _ | refine New.setCell ?_ (by first | omega | (simp; omega) | (simp; done)) _ | (refine New.trans ?_ (by assumption)))) n1); clear n1
    rw [HG.out]
    have zlt := RS.out.lt
    obtain ⟨r0, r1, f0, f1⟩ := RS.out
    go_wp2
    refine bodyPost_ret (v := .tuple #[.agg #[.slice none 0 0, .slice none 0 0], .bool false]) (by simp [results, Tryd.results13, go_sem, r0, r1]) rfl ⟨none, 0, 0, none, 0, 0, rfl, OwnF.nil _ _ _, (NW.out.setCell (by first | omega | (simp; omega) | (simp; done)) _).setCell (by first | omega | (simp; omega) | (simp; done)) _⟩
  case true =>
    rw [rssM_yes hg]
    obtain ⟨hf, ht⟩ := usB_iff.1 hg
    have hl := (fliB_iff.1 hf).1
    have h40 := trB_le ht
    have HF := Lib.hid hf; clear hf ht
    have HG := Lib.hid hg; clear hg
    go_enter Tryd.func13, Tryd.ntmps13
    go_wp2_with fail
    refine (loAsked_any _ _ _ _ _ _ _ L F s hs (HA.out.new (by repeat (first | with_reducible exact New.refl _ | with_reducible assumption | refine New.drewN ?_ _ | refine New.drew ?_ | refine New.alloc ?_ _ | refine New.setCell ?_ (by first | omega | (simp; omega) | (simp; done)) _ | (refine New.trans ?_ (by assumption))))) (HB.out.new (by repeat (first | with_reducible exact New.refl _ | with_reducible assumption | refine New.drewN ?_ _ | refine New.drew ?_ | refine New.alloc ?_ _ | refine New.setCell ?_ (by first | omega | (simp; omega) | (simp; done)) _ | (refine New.trans ?_ (by assumption)))))).mono ?_
    rintro e w1 ⟨rfl, n1⟩
    have a0 : w1.cell? ⟨w.heap.size, 0, none⟩ = some (.slice aa n ca) := n1.cell (by simp [go_sem])
    have a1 : w1.cell? ⟨w.heap.size, 1, none⟩ = some (.slice ab m cb) := n1.cell (by simp [go_sem])
    have RS : Hid (Res2 w1 (w.heap.size + 1)) := Lib.hid ⟨n1.cell (by simp [go_sem]), n1.cell (by simp [go_sem]), n1.frz (v := .slice none 0 0) (by simp [go_sem]) (by simp [go_sem]), n1.frz (v := .slice none 0 0) (by simp [go_sem]) (by simp [go_sem])⟩
    have NW := Lib.hid (show New w w1 from New.trans (by repeat (first | with_reducible exact New.refl _ | with_reducible assumption | refine New.drewN ?_ _ | refine New.drew ?_ | refine New.alloc ?_ _ | refine New.setCell ?_ (by first | omega | (simp; omega) | (simp; done)) _ | (refine New.trans ?_ (by assumption)))) n1); clear n1
    rw [HG.out]
    have zlt := RS.out.lt
    go_wp2_with fail
    refine (loRun_any _ _ _ _ _ _ _ L F s h40 (HA.out.new NW.out) (HB.out.new NW.out) HF.out).mono ?_
    rintro e w2 ⟨B, bf, cf, bc, bn, rfl, bx, lo, n2⟩
    have BX := Lib.hid bx; clear bx
    replace RS := Lib.hid (RS.out.new n2)
    have z1 := NW.out.size
    have z2 := n2.size
    have N2 := Lib.hid (NW.out.trans n2); clear n2 a0 a1
    go_wp2_with fail
    refine (sFlight_any _ _ _ _ _ _ _ _ _ _ _ _ BX.out hl.1 hl.2).mono ?_
    rintro e w4 ⟨sa, sc, sb, sd, rfl, of, n4⟩
    have OF := Lib.hid of; clear of
    replace RS := Lib.hid (RS.out.new n4)
    have N4 := Lib.hid (N2.out.trans n4)
    have z4 := n4.size
    clear n4
    obtain ⟨r0, r1, f0, f1⟩ := RS.out
    go_wp2
    refine bodyPost_ret (v := .tuple #[.agg #[.slice sa L.length sc, .slice sb L.length sd], .bool true]) (by simp [results, Tryd.results13, go_sem, r0, r1]) rfl ⟨sa, _, sc, sb, _, sd, rfl, ?_, (N4.out.setCell (by first | omega | (simp; omega) | (simp; done)) _).setCell (by first | omega | (simp; omega) | (simp; done)) _⟩
    exact ((OF.out.setCell (p := ⟨w.heap.size + 1, 0, none⟩) (.inl (by dsimp only; omega)) _).setCell (p := ⟨w.heap.size + 1, 1, none⟩) (.inl (by dsimp only; omega)) _).mono (by omega) (by simp)
set_option maxRecDepth 100000 in
set_option maxHeartbeats 1000000 in
theorem sStretchChanges_any (w : World) (aa ab : Option Addr) (n m ca cb : Nat) (L : List Int) (F : List Bool) (s : ByteArray) (hs : s.size ≤ 1048576) (h1 : Ints w aa n ca L) (h2 : Bools w ab m cb F) :
    Calls Tryd.prog 19 #[.agg #[.slice aa n ca, .slice ab m cb], .string s] w (RetIs w (chgM L F s) (usB L F s)) := by
  have HA := Lib.hid h1; clear h1
  have HB := Lib.hid h2; clear h2
  cases hg : usB L F s
  case false =>
    rw [chgM_no hg]
    have HG := Lib.hid hg; clear hg
    go_enter Tryd.func19, Tryd.ntmps19
    go_wp2_with fail
    refine (loAsked_any _ _ _ _ _ _ _ L F s hs (HA.out.new (by repeat (first | with_reducible exact New.refl _ | with_reducible assumption | refine New.drewN ?_ _ | refine New.drew ?_ | refine New.alloc ?_ _ | refine New.setCell ?_ (by first | omega | (simp; omega) | (simp; done)) _ | (refine New.trans ?_ (by assumption))))) (HB.out.new (by repeat (first | with_reducible exact New.refl _ | with_reducible assumption | refine New.drewN ?_ _ | refine New.drew ?_ | refine New.alloc ?_ _ | refine New.setCell ?_ (by first | omega | (simp; omega) | (simp; done)) _ | (refine New.trans ?_ (by assumption)))))).mono ?_
    rintro e w1 ⟨rfl, n1⟩
    have a0 : w1.cell? ⟨w.heap.size, 0, none⟩ = some (.slice aa n ca) := n1.cell (by simp [go_sem])
    have a1 : w1.cell? ⟨w.heap.size, 1, none⟩ = some (.slice ab m cb) := n1.cell (by simp [go_sem])
    have NW := Lib.hid (show New w w1 from New.trans (by repeat (first | with_reducible exact New.refl _ | with_reducible assumption | refine New.drewN ?_ _ | refine New.drew ?_ | refine New.alloc ?_ _ | refine New.setCell ?_ (by first | omega | (simp; omega) | (simp; done)) _ | (refine New.trans ?_ (by assumption)))) n1); clear n1
    rw [HG.out]
    have zlt : w.heap.size < w1.heap.size := World.block_lt_of_cell? _ _ a0
    go_wp2
    go_ret2
    exact ⟨none, 0, 0, rfl, Own.nil0 _ _ _, NW.out⟩
  case true =>
    rw [chgM_yes hg]
    obtain ⟨hf, ht⟩ := usB_iff.1 hg
    have hl := (fliB_iff.1 hf).1
    have h40 := trB_le ht
    have HF := Lib.hid hf; clear hf ht
    have HG := Lib.hid hg; clear hg
    go_enter Tryd.func19, Tryd.ntmps19
    go_wp2_with fail
    refine (loAsked_any _ _ _ _ _ _ _ L F s hs (HA.out.new (by repeat (first | with_reducible exact New.refl _ | with_reducible assumption | refine New.drewN ?_ _ | refine New.drew ?_ | refine New.alloc ?_ _ | refine New.setCell ?_ (by first | omega | (simp; omega) | (simp; done)) _ | (refine New.trans ?_ (by assumption))))) (HB.out.new (by repeat (first | with_reducible exact New.refl _ | with_reducible assumption | refine New.drewN ?_ _ | refine New.drew ?_ | refine New.alloc ?_ _ | refine New.setCell ?_ (by first | omega | (simp; omega) | (simp; done)) _ | (refine New.trans ?_ (by assumption)))))).mono ?_
    rintro e w1 ⟨rfl, n1⟩
    have a0 : w1.cell? ⟨w.heap.size, 0, none⟩ = some (.slice aa n ca) := n1.cell (by simp [go_sem])
    have a1 : w1.cell? ⟨w.heap.size, 1, none⟩ = some (.slice ab m cb) := n1.cell (by simp [go_sem])
    have NW := Lib.hid (show New w w1 from New.trans (by repeat (first | with_reducible exact New.refl _ | with_reducible assumption | refine New.drewN ?_ _ | refine New.drew ?_ | refine New.alloc ?_ _ | refine New.setCell ?_ (by first | omega | (simp; omega) | (simp; done)) _ | (refine New.trans ?_ (by assumption)))) n1); clear n1
    rw [HG.out]
    have zlt : w.heap.size < w1.heap.size := World.block_lt_of_cell? _ _ a0
    go_wp2_with fail
    refine (loRun_any _ _ _ _ _ _ _ L F s h40 (HA.out.new NW.out) (HB.out.new NW.out) HF.out).mono ?_
    rintro e w2 ⟨B, bf, cf, bc, bn, rfl, bx, lo, n2⟩
    have BX := Lib.hid bx; clear bx
    have z1 := NW.out.size
    have z2 := n2.size
    have N2 := Lib.hid (NW.out.trans n2); clear n2 a0 a1
    have k2 := BX.out.c2
    have yb : bc < w2.heap.size := World.block_lt_of_cell? _ _ (BX.out.atC (i := 0) (by omega)).1
    go_wp2
    go_ret2
    exact ⟨_, _, _, rfl, BX.out.rc.mono (by omega) (by omega), N2.out⟩
set_option maxRecDepth 100000 in
set_option maxHeartbeats 1000000 in
theorem sFillingsOf_any (w : World) (aa ab : Option Addr) (n m ca cb : Nat) (L : List Int) (F : List Bool) (s : ByteArray) (hs : s.size ≤ 1048576) (h1 : Ints w aa n ca L) (h2 : Bools w ab m cb F) :
    Calls Tryd.prog 26 #[.agg #[.slice aa n ca, .slice ab m cb], .string s] w (RetIs w (fgsM L F s) (usB L F s)) := by
  have HA := Lib.hid h1; clear h1
  have HB := Lib.hid h2; clear h2
  cases hg : usB L F s
  case false =>
    rw [fgsM_no hg]
    have HG := Lib.hid hg; clear hg
    go_enter Tryd.func26, Tryd.ntmps26
    go_wp2_with fail
    refine (loAsked_any _ _ _ _ _ _ _ L F s hs (HA.out.new (by repeat (first | with_reducible exact New.refl _ | with_reducible assumption | refine New.drewN ?_ _ | refine New.drew ?_ | refine New.alloc ?_ _ | refine New.setCell ?_ (by first | omega | (simp; omega) | (simp; done)) _ | (refine New.trans ?_ (by assumption))))) (HB.out.new (by repeat (first | with_reducible exact New.refl _ | with_reducible assumption | refine New.drewN ?_ _ | refine New.drew ?_ | refine New.alloc ?_ _ | refine New.setCell ?_ (by first | omega | (simp; omega) | (simp; done)) _ | (refine New.trans ?_ (by assumption)))))).mono ?_
    rintro e w1 ⟨rfl, n1⟩
    have a0 : w1.cell? ⟨w.heap.size, 0, none⟩ = some (.slice aa n ca) := n1.cell (by simp [go_sem])
    have a1 : w1.cell? ⟨w.heap.size, 1, none⟩ = some (.slice ab m cb) := n1.cell (by simp [go_sem])
    have NW := Lib.hid (show New w w1 from New.trans (by repeat (first | with_reducible exact New.refl _ | with_reducible assumption | refine New.drewN ?_ _ | refine New.drew ?_ | refine New.alloc ?_ _ | refine New.setCell ?_ (by first | omega | (simp; omega) | (simp; done)) _ | (refine New.trans ?_ (by assumption)))) n1); clear n1
    rw [HG.out]
    have zlt : w.heap.size < w1.heap.size := World.block_lt_of_cell? _ _ a0
    go_wp2
    go_ret2
    exact ⟨none, 0, 0, rfl, Own.nil0 _ _ _, NW.out⟩
  case true =>
    rw [fgsM_yes hg]
    obtain ⟨hf, ht⟩ := usB_iff.1 hg
    have hl := (fliB_iff.1 hf).1
    have h40 := trB_le ht
    have HF := Lib.hid hf; clear hf ht
    have HG := Lib.hid hg; clear hg
    go_enter Tryd.func26, Tryd.ntmps26
    go_wp2_with fail
    refine (loAsked_any _ _ _ _ _ _ _ L F s hs (HA.out.new (by repeat (first | with_reducible exact New.refl _ | with_reducible assumption | refine New.drewN ?_ _ | refine New.drew ?_ | refine New.alloc ?_ _ | refine New.setCell ?_ (by first | omega | (simp; omega) | (simp; done)) _ | (refine New.trans ?_ (by assumption))))) (HB.out.new (by repeat (first | with_reducible exact New.refl _ | with_reducible assumption | refine New.drewN ?_ _ | refine New.drew ?_ | refine New.alloc ?_ _ | refine New.setCell ?_ (by first | omega | (simp; omega) | (simp; done)) _ | (refine New.trans ?_ (by assumption)))))).mono ?_
    rintro e w1 ⟨rfl, n1⟩
    have a0 : w1.cell? ⟨w.heap.size, 0, none⟩ = some (.slice aa n ca) := n1.cell (by simp [go_sem])
    have a1 : w1.cell? ⟨w.heap.size, 1, none⟩ = some (.slice ab m cb) := n1.cell (by simp [go_sem])
    have NW := Lib.hid (show New w w1 from New.trans (by repeat (first | with_reducible exact New.refl _ | with_reducible assumption | refine New.drewN ?_ _ | refine New.drew ?_ | refine New.alloc ?_ _ | refine New.setCell ?_ (by first | omega | (simp; omega) | (simp; done)) _ | (refine New.trans ?_ (by assumption)))) n1); clear n1
    rw [HG.out]
    have zlt : w.heap.size < w1.heap.size := World.block_lt_of_cell? _ _ a0
    go_wp2_with fail
    refine (loRun_any _ _ _ _ _ _ _ L F s h40 (HA.out.new NW.out) (HB.out.new NW.out) HF.out).mono ?_
    rintro e w2 ⟨B, bf, cf, bc, bn, rfl, bx, lo, n2⟩
    have BX := Lib.hid bx; clear bx
    have z1 := NW.out.size
    have z2 := n2.size
    have N2 := Lib.hid (NW.out.trans n2); clear n2 a0 a1
    have k2 := BX.out.c3
    have yb : bn < w2.heap.size := World.block_lt_of_cell? _ _ (BX.out.atN (i := 0) (by omega)).1
    go_wp2
    go_ret2
    exact ⟨_, _, _, rfl, BX.out.rn.mono (by omega) (by omega), N2.out⟩
end Go.Proofs.YtmhcnomkkjgidaaDoor
