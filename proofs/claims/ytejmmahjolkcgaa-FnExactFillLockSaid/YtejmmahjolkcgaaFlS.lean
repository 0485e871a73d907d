/- The model's functions on flights: PassLock, FillLock, EmptyLock, RunShip. -/
import Derived.Test.YtejmmahjolkcgaaFlM
import Derived.Test.YtejmmahjolkcgaaNewS
import Derived.Test.YtejmmahjolkcgaaLkS
namespace Go.Proofs.Ytejmmahjolkcgaa
open Go.RowKit

set_option maxRecDepth 100000 in
theorem sPassLock_any (w : World) (aa ab : Option Addr) (n m ca cb : Nat) (L : List Int) (F : List Bool) (i : Int) (up : Bool) (h1 : Ints w aa n ca L) (h2 : Bools w ab m cb F) :
    Calls Try.prog 9 #[.agg #[.slice aa n ca, .slice ab m cb], .int .i64 i, .bool up] w (RetFl w (passM L F i up).1 (passM L F i up).2 (passB L F i up)) := by
  have HA := Lib.hid h1; clear h1
  have HB := Lib.hid h2; clear h2
  cases hg : floB L F i
  case false =>
    rw [show passB L F i up = false from hg, passM_no (show passB L F i up = false from hg)]
    have HG := Lib.hid hg; clear hg
    go_enter Try.func9, Try.ntmps9
    go_wp2_with fail
    refine (sOne_any _ _ _ _ _ _ _ L F _ (HA.out.new (by repeat (first | with_reducible exact New.refl _ | with_reducible assumption | refine New.drewN ?_ _ | refine New.drew ?_ | refine New.alloc ?_ _ | refine New.setCell ?_ (by first | omega | (simp; omega) | (simp; done)) _ | (refine New.trans ?_ (by assumption))))) (HB.out.new (by repeat (first | with_reducible exact New.refl _ | with_reducible assumption | refine New.drewN ?_ _ | refine New.drew ?_ | refine New.alloc ?_ _ | refine New.setCell ?_ (by first | omega | (simp; omega) | (simp; done)) _ | (refine New.trans ?_ (by assumption)))))).mono ?_
    rintro e w1 ⟨rfl, n1⟩
    have a0 : w1.cell? ⟨w.heap.size, 0, none⟩ = some (.slice aa n ca) := n1.cell (by simp [go_sem])
    have a1 : w1.cell? ⟨w.heap.size, 1, none⟩ = some (.slice ab m cb) := n1.cell (by simp [go_sem])
    have RS : Hid (Res2 w1 (w.heap.size + 1)) := Lib.hid ⟨n1.cell (by simp [go_sem]), n1.cell (by simp [go_sem]), n1.frz (v := .slice none 0 0) (by simp [go_sem]) (by simp [go_sem]), n1.frz (v := .slice none 0 0) (by simp [go_sem]) (by simp [go_sem])⟩
    have NW := Lib.hid (show New w w1 from New.trans (by repeat (first | with_reducible exact New.refl _ | with_reducible assumption | refine New.drewN ?_ _ | refine New.drew ?_ | refine New.alloc ?_ _ | refine New.setCell ?_ (by first | omega | (simp; omega) | (simp; done)) _ | (refine New.trans ?_ (by assumption)))) n1); clear n1
    rw [HG.out]
    obtain ⟨r0, r1, f0, f1⟩ := RS.out
    go_wp2
    refine bodyPost_ret (v := .tuple #[.agg #[.slice none 0 0, .slice none 0 0], .bool false]) (by simp [results, Try.results9, go_sem, r0, r1]) rfl ⟨none, 0, 0, none, 0, 0, rfl, OwnF.nil _ _ _, (NW.out.setCell (by first | omega | (simp; omega) | (simp; done)) _).setCell (by first | omega | (simp; omega) | (simp; done)) _⟩
  case true =>
    obtain ⟨hf, k, rfl, hk⟩ := floB_iff.1 hg
    obtain ⟨hl1, hl2, _⟩ := fliB_iff.1 hf
    have hn := HA.out.len
    have hm := HB.out.len
    have q : passB L F (k : Int) up = true := hg
    have R : passM L F (k : Int) up = (L, (passK L (newK F L.length) k up).F) := by unfold passM; rw [if_pos q]; rfl
    rw [q, R]
    clear R q
    have HG := Lib.hid hg; clear hg
    have HF := Lib.hid hf; clear hf
    have HN := Lib.hid (And.intro hn (And.intro hm hl2)); clear hn hm hl2
    go_enter Try.func9, Try.ntmps9
    go_wp2_with fail
    refine (sOne_any _ _ _ _ _ _ _ L F _ (HA.out.new (by repeat (first | with_reducible exact New.refl _ | with_reducible assumption | refine New.drewN ?_ _ | refine New.drew ?_ | refine New.alloc ?_ _ | refine New.setCell ?_ (by first | omega | (simp; omega) | (simp; done)) _ | (refine New.trans ?_ (by assumption))))) (HB.out.new (by repeat (first | with_reducible exact New.refl _ | with_reducible assumption | refine New.drewN ?_ _ | refine New.drew ?_ | refine New.alloc ?_ _ | refine New.setCell ?_ (by first | omega | (simp; omega) | (simp; done)) _ | (refine New.trans ?_ (by assumption)))))).mono ?_
    rintro e w1 ⟨rfl, n1⟩
    have a0 : w1.cell? ⟨w.heap.size, 0, none⟩ = some (.slice aa n ca) := n1.cell (by simp [go_sem])
    have a1 : w1.cell? ⟨w.heap.size, 1, none⟩ = some (.slice ab m cb) := n1.cell (by simp [go_sem])
    have RS : Hid (Res2 w1 (w.heap.size + 1)) := Lib.hid ⟨n1.cell (by simp [go_sem]), n1.cell (by simp [go_sem]), n1.frz (v := .slice none 0 0) (by simp [go_sem]) (by simp [go_sem]), n1.frz (v := .slice none 0 0) (by simp [go_sem]) (by simp [go_sem])⟩
    have NW := Lib.hid (show New w w1 from New.trans (by repeat (first | with_reducible exact New.refl _ | with_reducible assumption | refine New.drewN ?_ _ | refine New.drew ?_ | refine New.alloc ?_ _ | refine New.setCell ?_ (by first | omega | (simp; omega) | (simp; done)) _ | (refine New.trans ?_ (by assumption)))) n1); clear n1
    have zlt := RS.out.lt
    rw [HG.out]
    go_wp2_with fail
    refine (sNew_any _ _ _ _ _ _ _ L F (HA.out.new NW.out) (HB.out.new NW.out) HF.out).mono ?_
    rintro e w2 ⟨B, bf, cf, bc, bn, rfl, bx, lo, n2⟩
    have BX := Lib.hid bx; clear bx
    replace RS := Lib.hid (RS.out.new n2)
    have zr := RS.out.lt
    have z1 := NW.out.size
    have z2 := n2.size
    have N2 := Lib.hid (NW.out.trans n2); clear n2
    clear a0 a1
    have zq : w.heap.size + 1 < w1.heap.size := zlt
    go_wp2_with fail
    refine (sPass_any _ _ _ _ _ _ _ _ _ _ _ _ k up BX.out hk (by omega)).mono ?_
    rintro e w3 ⟨rfl, b3, k3⟩
    have B3 := Lib.hid b3; clear b3 BX
    replace RS := Lib.hid (RS.out.chg k3 (by omega))
    have N3 := Lib.hid (show New w w3 from k3.new N2.out (by rintro i (rfl | rfl | rfl) <;> omega))
    have z3 := k3.size
    clear k3
    go_wp2_with fail
    refine (sFlight_any _ _ _ _ _ _ _ _ _ _ _ _ B3.out hl1.1 (by omega)).mono ?_
    rintro e w4 ⟨sa, sc, sb, sd, rfl, of, n4⟩
    have OF := Lib.hid of; clear of
    replace RS := Lib.hid (RS.out.new n4)
    have N4 := Lib.hid (N3.out.trans n4)
    have z4 := n4.size
    clear n4
    obtain ⟨r0, r1, f0, f1⟩ := RS.out
    go_wp2
    refine bodyPost_ret (v := .tuple #[.agg #[.slice sa L.length sc, .slice sb L.length sd], .bool true]) (by simp [results, Try.results9, go_sem, r0, r1]) rfl ⟨sa, _, sc, sb, _, sd, rfl, ?_, (N4.out.setCell (by first | omega | (simp; omega) | (simp; done)) _).setCell (by first | omega | (simp; omega) | (simp; done)) _⟩
    exact ((OF.out.setCell (p := ⟨w.heap.size + 1, 0, none⟩) (.inl (by dsimp only; omega)) _).setCell (p := ⟨w.heap.size + 1, 1, none⟩) (.inl (by dsimp only; omega)) _).mono (by omega) (by simp)

set_option maxRecDepth 100000 in
theorem sFillLock_any (w : World) (aa ab : Option Addr) (n m ca cb : Nat) (L : List Int) (F : List Bool) (i : Int) (h1 : Ints w aa n ca L) (h2 : Bools w ab m cb F) :
    Calls Try.prog 15 #[.agg #[.slice aa n ca, .slice ab m cb], .int .i64 i] w (RetFl w (fillM L F i).1 (fillM L F i).2 (fillB L F i)) := by
  have HA := Lib.hid h1; clear h1
  have HB := Lib.hid h2; clear h2
  cases hg : floB L F i
  case false =>
    rw [show fillB L F i = false by unfold fillB; rw [hg]; rfl, fillM_no (show fillB L F i = false by unfold fillB; rw [hg]; rfl)]
    have HG := Lib.hid hg; clear hg
    go_enter Try.func15, Try.ntmps15
    go_wp2_with fail
    refine (sOne_any _ _ _ _ _ _ _ L F _ (HA.out.new (by repeat (first | with_reducible exact New.refl _ | with_reducible assumption | refine New.drewN ?_ _ | refine New.drew ?_ | refine New.alloc ?_ _ | refine New.setCell ?_ (by first | omega | (simp; omega) | (simp; done)) _ | (refine New.trans ?_ (by assumption))))) (HB.out.new (by repeat (first | with_reducible exact New.refl _ | with_reducible assumption | refine New.drewN ?_ _ | refine New.drew ?_ | refine New.alloc ?_ _ | refine New.setCell ?_ (by first | omega | (simp; omega) | (simp; done)) _ | (refine New.trans ?_ (by assumption)))))).mono ?_
    rintro e w1 ⟨rfl, n1⟩
    have a0 : w1.cell? ⟨w.heap.size, 0, none⟩ = some (.slice aa n ca) := n1.cell (by simp [go_sem])
    have a1 : w1.cell? ⟨w.heap.size, 1, none⟩ = some (.slice ab m cb) := n1.cell (by simp [go_sem])
    have RS : Hid (Res2 w1 (w.heap.size + 1)) := Lib.hid ⟨n1.cell (by simp [go_sem]), n1.cell (by simp [go_sem]), n1.frz (v := .slice none 0 0) (by simp [go_sem]) (by simp [go_sem]), n1.frz (v := .slice none 0 0) (by simp [go_sem]) (by simp [go_sem])⟩
    have NW := Lib.hid (show New w w1 from New.trans (by repeat (first | with_reducible exact New.refl _ | with_reducible assumption | refine New.drewN ?_ _ | refine New.drew ?_ | refine New.alloc ?_ _ | refine New.setCell ?_ (by first | omega | (simp; omega) | (simp; done)) _ | (refine New.trans ?_ (by assumption)))) n1); clear n1
    rw [HG.out]
    obtain ⟨r0, r1, f0, f1⟩ := RS.out
    go_wp2
    refine bodyPost_ret (v := .tuple #[.agg #[.slice none 0 0, .slice none 0 0], .bool false]) (by simp [results, Try.results15, go_sem, r0, r1]) rfl ⟨none, 0, 0, none, 0, 0, rfl, OwnF.nil _ _ _, (NW.out.setCell (by first | omega | (simp; omega) | (simp; done)) _).setCell (by first | omega | (simp; omega) | (simp; done)) _⟩
  case true =>
    obtain ⟨hf, k, rfl, hk⟩ := floB_iff.1 hg
    obtain ⟨hl1, hl2, _⟩ := fliB_iff.1 hf
    have hn := HA.out.len
    have hm := HB.out.len
    obtain ⟨bb, ob, hab, cb0, zb0⟩ := HB.out.at (j := k) (by omega)
    subst hab
    cases hx : F[k]?.getD false
    case false =>
      have q : fillB L F (k : Int) = true := by unfold fillB; rw [hg]; simp [hx]
      rw [hx] at cb0
      have R : fillM L F (k : Int) = (L, (fillK L (newK F L.length) k).F) := by unfold fillM; rw [if_pos q]; rfl
      rw [q, R]
      clear R q
      have HG := Lib.hid hg; clear hg
      have HF := Lib.hid hf; clear hf
      have vk : k < m := by omega
      clear hx
      have HN := Lib.hid (And.intro hn (And.intro hm hl2)); clear hn hm hl2
      go_enter Try.func15, Try.ntmps15
      go_wp2_with fail
      refine (sOne_any _ _ _ _ _ _ _ L F _ (HA.out.new (by repeat (first | with_reducible exact New.refl _ | with_reducible assumption | refine New.drewN ?_ _ | refine New.drew ?_ | refine New.alloc ?_ _ | refine New.setCell ?_ (by first | omega | (simp; omega) | (simp; done)) _ | (refine New.trans ?_ (by assumption))))) (HB.out.new (by repeat (first | with_reducible exact New.refl _ | with_reducible assumption | refine New.drewN ?_ _ | refine New.drew ?_ | refine New.alloc ?_ _ | refine New.setCell ?_ (by first | omega | (simp; omega) | (simp; done)) _ | (refine New.trans ?_ (by assumption)))))).mono ?_
      rintro e w1 ⟨rfl, n1⟩
      have a0 : w1.cell? ⟨w.heap.size, 0, none⟩ = some (.slice aa n ca) := n1.cell (by simp [go_sem])
      have a1 : w1.cell? ⟨w.heap.size, 1, none⟩ = some (.slice (some ⟨bb, ob, none⟩) m cb) := n1.cell (by simp [go_sem])
      have RS : Hid (Res2 w1 (w.heap.size + 1)) := Lib.hid ⟨n1.cell (by simp [go_sem]), n1.cell (by simp [go_sem]), n1.frz (v := .slice none 0 0) (by simp [go_sem]) (by simp [go_sem]), n1.frz (v := .slice none 0 0) (by simp [go_sem]) (by simp [go_sem])⟩
      have NW := Lib.hid (show New w w1 from New.trans (by repeat (first | with_reducible exact New.refl _ | with_reducible assumption | refine New.drewN ?_ _ | refine New.drew ?_ | refine New.alloc ?_ _ | refine New.setCell ?_ (by first | omega | (simp; omega) | (simp; done)) _ | (refine New.trans ?_ (by assumption)))) n1); clear n1
      have zlt := RS.out.lt
      rw [HG.out]
      have cb1 := NW.out.cell cb0
      go_wp2_with fail
      refine (sNew_any _ _ _ _ _ _ _ L F (HA.out.new NW.out) (HB.out.new NW.out) HF.out).mono ?_
      rintro e w2 ⟨B, bf, cf, bc, bn, rfl, bx, lo, n2⟩
      have BX := Lib.hid bx; clear bx
      replace RS := Lib.hid (RS.out.new n2)
      have zr := RS.out.lt
      have z1 := NW.out.size
      have z2 := n2.size
      have N2 := Lib.hid (NW.out.trans n2); clear n2
      clear a0 a1
      clear cb1
      have zq : w.heap.size + 1 < w1.heap.size := zlt
      go_wp2_with fail
      refine (sFill_any _ _ _ _ _ _ _ _ _ _ _ _ k BX.out hk (by omega)).mono ?_
      rintro e w3 ⟨rfl, b3, k3⟩
      have B3 := Lib.hid b3; clear b3 BX
      replace RS := Lib.hid (RS.out.chg k3 (by omega))
      have N3 := Lib.hid (show New w w3 from k3.new N2.out (by rintro i (rfl | rfl | rfl) <;> omega))
      have z3 := k3.size
      clear k3
      go_wp2_with fail
      refine (sFlight_any _ _ _ _ _ _ _ _ _ _ _ _ B3.out hl1.1 (by omega)).mono ?_
      rintro e w4 ⟨sa, sc, sb, sd, rfl, of, n4⟩
      have OF := Lib.hid of; clear of
      replace RS := Lib.hid (RS.out.new n4)
      have N4 := Lib.hid (N3.out.trans n4)
      have z4 := n4.size
      clear n4
      obtain ⟨r0, r1, f0, f1⟩ := RS.out
      go_wp2
      refine bodyPost_ret (v := .tuple #[.agg #[.slice sa L.length sc, .slice sb L.length sd], .bool true]) (by simp [results, Try.results15, go_sem, r0, r1]) rfl ⟨sa, _, sc, sb, _, sd, rfl, ?_, (N4.out.setCell (by first | omega | (simp; omega) | (simp; done)) _).setCell (by first | omega | (simp; omega) | (simp; done)) _⟩
      exact ((OF.out.setCell (p := ⟨w.heap.size + 1, 0, none⟩) (.inl (by dsimp only; omega)) _).setCell (p := ⟨w.heap.size + 1, 1, none⟩) (.inl (by dsimp only; omega)) _).mono (by omega) (by simp)
    case true =>
      have q : fillB L F (k : Int) = false := by unfold fillB; rw [hg]; simp [hx]
      rw [q, fillM_no q]
      rw [hx] at cb0
      have HG := Lib.hid hg; clear hg
      clear q hx hf hl1 hl2 
      have HN := Lib.hid (And.intro hk (And.intro hn hm)); clear hn hm
      have vk : k < m := by have := HN.out; have := HB.out.len; have := fliB_iff.1 (floB_iff.1 HG.out).1; omega
      clear hk
      go_enter Try.func15, Try.ntmps15
      go_wp2_with fail
      refine (sOne_any _ _ _ _ _ _ _ L F _ (HA.out.new (by repeat (first | with_reducible exact New.refl _ | with_reducible assumption | refine New.drewN ?_ _ | refine New.drew ?_ | refine New.alloc ?_ _ | refine New.setCell ?_ (by first | omega | (simp; omega) | (simp; done)) _ | (refine New.trans ?_ (by assumption))))) (HB.out.new (by repeat (first | with_reducible exact New.refl _ | with_reducible assumption | refine New.drewN ?_ _ | refine New.drew ?_ | refine New.alloc ?_ _ | refine New.setCell ?_ (by first | omega | (simp; omega) | (simp; done)) _ | (refine New.trans ?_ (by assumption)))))).mono ?_
      rintro e w1 ⟨rfl, n1⟩
      have a0 : w1.cell? ⟨w.heap.size, 0, none⟩ = some (.slice aa n ca) := n1.cell (by simp [go_sem])
      have a1 : w1.cell? ⟨w.heap.size, 1, none⟩ = some (.slice (some ⟨bb, ob, none⟩) m cb) := n1.cell (by simp [go_sem])
      have RS : Hid (Res2 w1 (w.heap.size + 1)) := Lib.hid ⟨n1.cell (by simp [go_sem]), n1.cell (by simp [go_sem]), n1.frz (v := .slice none 0 0) (by simp [go_sem]) (by simp [go_sem]), n1.frz (v := .slice none 0 0) (by simp [go_sem]) (by simp [go_sem])⟩
      have NW := Lib.hid (show New w w1 from New.trans (by repeat (first | with_reducible exact New.refl _ | with_reducible assumption | refine New.drewN ?_ _ | refine New.drew ?_ | refine New.alloc ?_ _ | refine New.setCell ?_ (by first | omega | (simp; omega) | (simp; done)) _ | (refine New.trans ?_ (by assumption)))) n1); clear n1
      rw [HG.out]
      have cb1 := NW.out.cell cb0
      obtain ⟨r0, r1, f0, f1⟩ := RS.out
      go_wp2
      refine bodyPost_ret (v := .tuple #[.agg #[.slice none 0 0, .slice none 0 0], .bool false]) (by simp [results, Try.results15, go_sem, r0, r1]) rfl ⟨none, 0, 0, none, 0, 0, rfl, OwnF.nil _ _ _, (NW.out.setCell (by first | omega | (simp; omega) | (simp; done)) _).setCell (by first | omega | (simp; omega) | (simp; done)) _⟩

set_option maxRecDepth 100000 in
theorem sEmptyLock_any (w : World) (aa ab : Option Addr) (n m ca cb : Nat) (L : List Int) (F : List Bool) (i : Int) (h1 : Ints w aa n ca L) (h2 : Bools w ab m cb F) :
    Calls Try.prog 17 #[.agg #[.slice aa n ca, .slice ab m cb], .int .i64 i] w (RetFl w (emptM L F i).1 (emptM L F i).2 (emptB L F i)) := by
  have HA := Lib.hid h1; clear h1
  have HB := Lib.hid h2; clear h2
  cases hg : floB L F i
  case false =>
    rw [show emptB L F i = false by unfold emptB; rw [hg]; rfl, emptM_no (show emptB L F i = false by unfold emptB; rw [hg]; rfl)]
    have HG := Lib.hid hg; clear hg
    go_enter Try.func17, Try.ntmps17
    go_wp2_with fail
    refine (sOne_any _ _ _ _ _ _ _ L F _ (HA.out.new (by repeat (first | with_reducible exact New.refl _ | with_reducible assumption | refine New.drewN ?_ _ | refine New.drew ?_ | refine New.alloc ?_ _ | refine New.setCell ?_ (by first | omega | (simp; omega) | (simp; done)) _ | (refine New.trans ?_ (by assumption))))) (HB.out.new (by repeat (first | with_reducible exact New.refl _ | with_reducible assumption | refine New.drewN ?_ _ | refine New.drew ?_ | refine New.alloc ?_ _ | refine New.setCell ?_ (by first | omega | (simp; omega) | (simp; done)) _ | (refine New.trans ?_ (by assumption)))))).mono ?_
    rintro e w1 ⟨rfl, n1⟩
    have a0 : w1.cell? ⟨w.heap.size, 0, none⟩ = some (.slice aa n ca) := n1.cell (by simp [go_sem])
    have a1 : w1.cell? ⟨w.heap.size, 1, none⟩ = some (.slice ab m cb) := n1.cell (by simp [go_sem])
    have RS : Hid (Res2 w1 (w.heap.size + 1)) := Lib.hid ⟨n1.cell (by simp [go_sem]), n1.cell (by simp [go_sem]), n1.frz (v := .slice none 0 0) (by simp [go_sem]) (by simp [go_sem]), n1.frz (v := .slice none 0 0) (by simp [go_sem]) (by simp [go_sem])⟩
    have NW := Lib.hid (show New w w1 from New.trans (by repeat (first | with_reducible exact New.refl _ | with_reducible assumption | refine New.drewN ?_ _ | refine New.drew ?_ | refine New.alloc ?_ _ | refine New.setCell ?_ (by first | omega | (simp; omega) | (simp; done)) _ | (refine New.trans ?_ (by assumption)))) n1); clear n1
    rw [HG.out]
    obtain ⟨r0, r1, f0, f1⟩ := RS.out
    go_wp2
    refine bodyPost_ret (v := .tuple #[.agg #[.slice none 0 0, .slice none 0 0], .bool false]) (by simp [results, Try.results17, go_sem, r0, r1]) rfl ⟨none, 0, 0, none, 0, 0, rfl, OwnF.nil _ _ _, (NW.out.setCell (by first | omega | (simp; omega) | (simp; done)) _).setCell (by first | omega | (simp; omega) | (simp; done)) _⟩
  case true =>
    obtain ⟨hf, k, rfl, hk⟩ := floB_iff.1 hg
    obtain ⟨hl1, hl2, _⟩ := fliB_iff.1 hf
    have hn := HA.out.len
    have hm := HB.out.len
    obtain ⟨bb, ob, hab, cb0, zb0⟩ := HB.out.at (j := k) (by omega)
    subst hab
    cases hx : F[k]?.getD false
    case false =>
      have q : emptB L F (k : Int) = false := by unfold emptB; rw [hg]; simp [hx]
      rw [q, emptM_no q]
      rw [hx] at cb0
      have HG := Lib.hid hg; clear hg
      clear q hx hf hl1 hl2 
      have HN := Lib.hid (And.intro hk (And.intro hn hm)); clear hn hm
      have vk : k < m := by have := HN.out; have := HB.out.len; have := fliB_iff.1 (floB_iff.1 HG.out).1; omega
      clear hk
      go_enter Try.func17, Try.ntmps17
      go_wp2_with fail
      refine (sOne_any _ _ _ _ _ _ _ L F _ (HA.out.new (by repeat (first | with_reducible exact New.refl _ | with_reducible assumption | refine New.drewN ?_ _ | refine New.drew ?_ | refine New.alloc ?_ _ | refine New.setCell ?_ (by first | omega | (simp; omega) | (simp; done)) _ | (refine New.trans ?_ (by assumption))))) (HB.out.new (by repeat (first | with_reducible exact New.refl _ | with_reducible assumption | refine New.drewN ?_ _ | refine New.drew ?_ | refine New.alloc ?_ _ | refine New.setCell ?_ (by first | omega | (simp; omega) | (simp; done)) _ | (refine New.trans ?_ (by assumption)))))).mono ?_
      rintro e w1 ⟨rfl, n1⟩
      have a0 : w1.cell? ⟨w.heap.size, 0, none⟩ = some (.slice aa n ca) := n1.cell (by simp [go_sem])
      have a1 : w1.cell? ⟨w.heap.size, 1, none⟩ = some (.slice (some ⟨bb, ob, none⟩) m cb) := n1.cell (by simp [go_sem])
      have RS : Hid (Res2 w1 (w.heap.size + 1)) := Lib.hid ⟨n1.cell (by simp [go_sem]), n1.cell (by simp [go_sem]), n1.frz (v := .slice none 0 0) (by simp [go_sem]) (by simp [go_sem]), n1.frz (v := .slice none 0 0) (by simp [go_sem]) (by simp [go_sem])⟩
      have NW := Lib.hid (show New w w1 from New.trans (by repeat (first | with_reducible exact New.refl _ | with_reducible assumption | refine New.drewN ?_ _ | refine New.drew ?_ | refine New.alloc ?_ _ | refine New.setCell ?_ (by first | omega | (simp; omega) | (simp; done)) _ | (refine New.trans ?_ (by assumption)))) n1); clear n1
      rw [HG.out]
      have cb1 := NW.out.cell cb0
      obtain ⟨r0, r1, f0, f1⟩ := RS.out
      go_wp2
      refine bodyPost_ret (v := .tuple #[.agg #[.slice none 0 0, .slice none 0 0], .bool false]) (by simp [results, Try.results17, go_sem, r0, r1]) rfl ⟨none, 0, 0, none, 0, 0, rfl, OwnF.nil _ _ _, (NW.out.setCell (by first | omega | (simp; omega) | (simp; done)) _).setCell (by first | omega | (simp; omega) | (simp; done)) _⟩
    case true =>
      have q : emptB L F (k : Int) = true := by unfold emptB; rw [hg]; simp [hx]
      rw [hx] at cb0
      have R : emptM L F (k : Int) = (L, (emptK L (newK F L.length) k).F) := by unfold emptM; rw [if_pos q]; rfl
      rw [q, R]
      clear R q
      have HG := Lib.hid hg; clear hg
      have HF := Lib.hid hf; clear hf
      have vk : k < m := by omega
      clear hx
      have HN := Lib.hid (And.intro hn (And.intro hm hl2)); clear hn hm hl2
      go_enter Try.func17, Try.ntmps17
      go_wp2_with fail
      refine (sOne_any _ _ _ _ _ _ _ L F _ (HA.out.new (by repeat (first | with_reducible exact New.refl _ | with_reducible assumption | refine New.drewN ?_ _ | refine New.drew ?_ | refine New.alloc ?_ _ | refine New.setCell ?_ (by first | omega | (simp; omega) | (simp; done)) _ | (refine New.trans ?_ (by assumption))))) (HB.out.new (by repeat (first | with_reducible exact New.refl _ | with_reducible assumption | refine New.drewN ?_ _ | refine New.drew ?_ | refine New.alloc ?_ _ | refine New.setCell ?_ (by first | omega | (simp; omega) | (simp; done)) _ | (refine New.trans ?_ (by assumption)))))).mono ?_
      rintro e w1 ⟨rfl, n1⟩
      have a0 : w1.cell? ⟨w.heap.size, 0, none⟩ = some (.slice aa n ca) := n1.cell (by simp [go_sem])
      have a1 : w1.cell? ⟨w.heap.size, 1, none⟩ = some (.slice (some ⟨bb, ob, none⟩) m cb) := n1.cell (by simp [go_sem])
      have RS : Hid (Res2 w1 (w.heap.size + 1)) := Lib.hid ⟨n1.cell (by simp [go_sem]), n1.cell (by simp [go_sem]), n1.frz (v := .slice none 0 0) (by simp [go_sem]) (by simp [go_sem]), n1.frz (v := .slice none 0 0) (by simp [go_sem]) (by simp [go_sem])⟩
      have NW := Lib.hid (show New w w1 from New.trans (by repeat (first | with_reducible exact New.refl _ | with_reducible assumption | refine New.drewN ?_ _ | refine New.drew ?_ | refine New.alloc ?_ _ | refine New.setCell ?_ (by first | omega | (simp; omega) | (simp; done)) _ | (refine New.trans ?_ (by assumption)))) n1); clear n1
      have zlt := RS.out.lt
      rw [HG.out]
      have cb1 := NW.out.cell cb0
      go_wp2_with fail
      refine (sNew_any _ _ _ _ _ _ _ L F (HA.out.new NW.out) (HB.out.new NW.out) HF.out).mono ?_
      rintro e w2 ⟨B, bf, cf, bc, bn, rfl, bx, lo, n2⟩
      have BX := Lib.hid bx; clear bx
      replace RS := Lib.hid (RS.out.new n2)
      have zr := RS.out.lt
      have z1 := NW.out.size
      have z2 := n2.size
      have N2 := Lib.hid (NW.out.trans n2); clear n2
      clear a0 a1
      clear cb1
      have zq : w.heap.size + 1 < w1.heap.size := zlt
      go_wp2_with fail
      refine (sEmpt_any _ _ _ _ _ _ _ _ _ _ _ _ k BX.out hk (by omega)).mono ?_
      rintro e w3 ⟨rfl, b3, k3⟩
      have B3 := Lib.hid b3; clear b3 BX
      replace RS := Lib.hid (RS.out.chg k3 (by omega))
      have N3 := Lib.hid (show New w w3 from k3.new N2.out (by rintro i (rfl | rfl | rfl) <;> omega))
      have z3 := k3.size
      clear k3
      go_wp2_with fail
      refine (sFlight_any _ _ _ _ _ _ _ _ _ _ _ _ B3.out hl1.1 (by omega)).mono ?_
      rintro e w4 ⟨sa, sc, sb, sd, rfl, of, n4⟩
      have OF := Lib.hid of; clear of
      replace RS := Lib.hid (RS.out.new n4)
      have N4 := Lib.hid (N3.out.trans n4)
      have z4 := n4.size
      clear n4
      obtain ⟨r0, r1, f0, f1⟩ := RS.out
      go_wp2
      refine bodyPost_ret (v := .tuple #[.agg #[.slice sa L.length sc, .slice sb L.length sd], .bool true]) (by simp [results, Try.results17, go_sem, r0, r1]) rfl ⟨sa, _, sc, sb, _, sd, rfl, ?_, (N4.out.setCell (by first | omega | (simp; omega) | (simp; done)) _).setCell (by first | omega | (simp; omega) | (simp; done)) _⟩
      exact ((OF.out.setCell (p := ⟨w.heap.size + 1, 0, none⟩) (.inl (by dsimp only; omega)) _).setCell (p := ⟨w.heap.size + 1, 1, none⟩) (.inl (by dsimp only; omega)) _).mono (by omega) (by simp)

set_option maxRecDepth 100000 in
theorem sRunShip_any (w : World) (aa ab : Option Addr) (n m ca cb : Nat) (L : List Int) (F : List Bool) (up : Bool) (h1 : Ints w aa n ca L) (h2 : Bools w ab m cb F) :
    Calls Try.prog 19 #[.agg #[.slice aa n ca, .slice ab m cb], .bool up] w (RetFl w (shipM L F up).1 (shipM L F up).2 (fliB L F)) := by
  have HA := Lib.hid h1; clear h1
  have HB := Lib.hid h2; clear h2
  cases hg : fliB L F
  case false =>
    rw [shipM_no hg]
    have HG := Lib.hid hg; clear hg
    go_enter Try.func19, Try.ntmps19
    go_wp2_with fail
    refine (sGood_any _ _ _ _ _ _ _ L F (HA.out.new (by repeat (first | with_reducible exact New.refl _ | with_reducible assumption | refine New.drewN ?_ _ | refine New.drew ?_ | refine New.alloc ?_ _ | refine New.setCell ?_ (by first | omega | (simp; omega) | (simp; done)) _ | (refine New.trans ?_ (by assumption))))) (HB.out.new (by repeat (first | with_reducible exact New.refl _ | with_reducible assumption | refine New.drewN ?_ _ | refine New.drew ?_ | refine New.alloc ?_ _ | refine New.setCell ?_ (by first | omega | (simp; omega) | (simp; done)) _ | (refine New.trans ?_ (by assumption)))))).mono ?_
    rintro e w1 ⟨rfl, n1⟩
    have a0 : w1.cell? ⟨w.heap.size, 0, none⟩ = some (.slice aa n ca) := n1.cell (by simp [go_sem])
    have a1 : w1.cell? ⟨w.heap.size, 1, none⟩ = some (.slice ab m cb) := n1.cell (by simp [go_sem])
    have RS : Hid (Res2 w1 (w.heap.size + 1)) := Lib.hid ⟨n1.cell (by simp [go_sem]), n1.cell (by simp [go_sem]), n1.frz (v := .slice none 0 0) (by simp [go_sem]) (by simp [go_sem]), n1.frz (v := .slice none 0 0) (by simp [go_sem]) (by simp [go_sem])⟩
    have NW := Lib.hid (show New w w1 from New.trans (by repeat (first | with_reducible exact New.refl _ | with_reducible assumption | refine New.drewN ?_ _ | refine New.drew ?_ | refine New.alloc ?_ _ | refine New.setCell ?_ (by first | omega | (simp; omega) | (simp; done)) _ | (refine New.trans ?_ (by assumption)))) n1); clear n1
    rw [HG.out]
    obtain ⟨r0, r1, f0, f1⟩ := RS.out
    go_wp2
    refine bodyPost_ret (v := .tuple #[.agg #[.slice none 0 0, .slice none 0 0], .bool false]) (by simp [results, Try.results19, go_sem, r0, r1]) rfl ⟨none, 0, 0, none, 0, 0, rfl, OwnF.nil _ _ _, (NW.out.setCell (by first | omega | (simp; omega) | (simp; done)) _).setCell (by first | omega | (simp; omega) | (simp; done)) _⟩
  case true =>
    have hf := hg
    obtain ⟨hl1, hl2, _⟩ := fliB_iff.1 hf
    have hn := HA.out.len
    have hm := HB.out.len
    have q : fliB L F = true := hf
    have R : shipM L F up = (L, (shipK L (newK F L.length) up).F) := by unfold shipM; rw [if_pos q]
    rw [R]
    clear R q
    have HG := Lib.hid hg; clear hg
    have HF := Lib.hid hf; clear hf
    have HN := Lib.hid (And.intro hn (And.intro hm hl2)); clear hn hm hl2
    go_enter Try.func19, Try.ntmps19
    go_wp2_with fail
    refine (sGood_any _ _ _ _ _ _ _ L F (HA.out.new (by repeat (first | with_reducible exact New.refl _ | with_reducible assumption | refine New.drewN ?_ _ | refine New.drew ?_ | refine New.alloc ?_ _ | refine New.setCell ?_ (by first | omega | (simp; omega) | (simp; done)) _ | (refine New.trans ?_ (by assumption))))) (HB.out.new (by repeat (first | with_reducible exact New.refl _ | with_reducible assumption | refine New.drewN ?_ _ | refine New.drew ?_ | refine New.alloc ?_ _ | refine New.setCell ?_ (by first | omega | (simp; omega) | (simp; done)) _ | (refine New.trans ?_ (by assumption)))))).mono ?_
    rintro e w1 ⟨rfl, n1⟩
    have a0 : w1.cell? ⟨w.heap.size, 0, none⟩ = some (.slice aa n ca) := n1.cell (by simp [go_sem])
    have a1 : w1.cell? ⟨w.heap.size, 1, none⟩ = some (.slice ab m cb) := n1.cell (by simp [go_sem])
    have RS : Hid (Res2 w1 (w.heap.size + 1)) := Lib.hid ⟨n1.cell (by simp [go_sem]), n1.cell (by simp [go_sem]), n1.frz (v := .slice none 0 0) (by simp [go_sem]) (by simp [go_sem]), n1.frz (v := .slice none 0 0) (by simp [go_sem]) (by simp [go_sem])⟩
    have NW := Lib.hid (show New w w1 from New.trans (by repeat (first | with_reducible exact New.refl _ | with_reducible assumption | refine New.drewN ?_ _ | refine New.drew ?_ | refine New.alloc ?_ _ | refine New.setCell ?_ (by first | omega | (simp; omega) | (simp; done)) _ | (refine New.trans ?_ (by assumption)))) n1); clear n1
    have zlt := RS.out.lt
    rw [HG.out]
    go_wp2_with fail
    refine (sNew_any _ _ _ _ _ _ _ L F (HA.out.new NW.out) (HB.out.new NW.out) HF.out).mono ?_
    rintro e w2 ⟨B, bf, cf, bc, bn, rfl, bx, lo, n2⟩
    have BX := Lib.hid bx; clear bx
    replace RS := Lib.hid (RS.out.new n2)
    have zr := RS.out.lt
    have z1 := NW.out.size
    have z2 := n2.size
    have N2 := Lib.hid (NW.out.trans n2); clear n2
    clear a0 a1
    have zq : w.heap.size + 1 < w1.heap.size := zlt
    go_wp2_with fail
    refine (sShip_any _ _ _ _ _ _ _ _ _ _ _ _ up BX.out (by omega)).mono ?_
    rintro e w3 ⟨rfl, b3, k3⟩
    have B3 := Lib.hid b3; clear b3 BX
    replace RS := Lib.hid (RS.out.chg k3 (by omega))
    have N3 := Lib.hid (show New w w3 from k3.new N2.out (by rintro i (rfl | rfl | rfl) <;> omega))
    have z3 := k3.size
    clear k3
    go_wp2_with fail
    refine (sFlight_any _ _ _ _ _ _ _ _ _ _ _ _ B3.out hl1.1 (by omega)).mono ?_
    rintro e w4 ⟨sa, sc, sb, sd, rfl, of, n4⟩
    have OF := Lib.hid of; clear of
    replace RS := Lib.hid (RS.out.new n4)
    have N4 := Lib.hid (N3.out.trans n4)
    have z4 := n4.size
    clear n4
    obtain ⟨r0, r1, f0, f1⟩ := RS.out
    go_wp2
    refine bodyPost_ret (v := .tuple #[.agg #[.slice sa L.length sc, .slice sb L.length sd], .bool true]) (by simp [results, Try.results19, go_sem, r0, r1]) rfl ⟨sa, _, sc, sb, _, sd, rfl, ?_, (N4.out.setCell (by first | omega | (simp; omega) | (simp; done)) _).setCell (by first | omega | (simp; omega) | (simp; done)) _⟩
    exact ((OF.out.setCell (p := ⟨w.heap.size + 1, 0, none⟩) (.inl (by dsimp only; omega)) _).setCell (p := ⟨w.heap.size + 1, 1, none⟩) (.inl (by dsimp only; omega)) _).mono (by omega) (by simp)
end Go.Proofs.Ytejmmahjolkcgaa
