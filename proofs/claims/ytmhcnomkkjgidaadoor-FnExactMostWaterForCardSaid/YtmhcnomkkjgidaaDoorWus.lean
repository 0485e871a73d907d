/- The water that traffic uses, the model's and the program's. -/
import Derived.Test.YtmhcnomkkjgidaaDoorUfS
import Derived.Test.YtmhcnomkkjgidaaDoorUfI
import Derived.Deep.RegionWith
import Derived.IntWalk
namespace Go.Proofs.YtmhcnomkkjgidaaDoor
open Go.RowKit

theorem wrap64_is (x : Int) : wrap64 x = IntKind.i64.wrap x := (IntWalk.i64_left x).symm
set_option maxRecDepth 100000 in
set_option maxHeartbeats 1000000 in
theorem loUsed_any (w : World) (aa ab : Option Addr) (n m ca cb : Nat) (L : List Int) (F : List Bool) (s : ByteArray) (hs : s.size ≤ 40) (h1 : Ints w aa n ca L) (h2 : Bools w ab m cb F) (hf : fliB L F = true) :
    Calls Tryd.prog 45 #[.agg #[.slice aa n ca, .slice ab m cb], .string s] w fun e w' => e = .returned (.int .i64 (IntKind.i64.wrap (-((stE L F s).C[L.length]?.getD 0)))) ∧ New w w' := by
  have hl := (fliB_iff.1 hf).1
  obtain rfl := h1.len
  obtain ⟨z, hz⟩ : ∃ z, z = (stE L F s).C[L.length]?.getD 0 := ⟨_, rfl⟩
  rw [← hz]
  have HZ := Lib.hid hz; clear hz
  have HA := Lib.hid h1; clear h1
  have HB := Lib.hid h2; clear h2
  have HF := Lib.hid hf; clear hf
  go_enter Tryd.func45, Tryd.ntmps45
  go_upto_region 1 with fail
  obtain ⟨v0, hv0⟩ : ∃ v, v = w.alloc (.cells #[.slice aa L.length ca, .slice ab m cb] 28) := ⟨_, rfl⟩
  rw [← hv0]
  have a0 : v0.cell? ⟨w.heap.size, 0, none⟩ = some (.slice aa L.length ca) := by rw [hv0]; simp [go_sem]
  have a1 : v0.cell? ⟨w.heap.size, 1, none⟩ = some (.slice ab m cb) := by rw [hv0]; simp [go_sem]
  have N0 := Lib.hid (show New w v0 by rw [hv0]; exact (by repeat (first | with_reducible exact New.refl _ | with_reducible assumption | refine New.drewN ?_ _ | refine New.drew ?_ | refine New.alloc ?_ _ | refine New.setCell ?_ (by first | omega | (simp; omega) | (simp; done)) _ | (refine New.trans ?_ (by assumption)))))
  clear hv0
  go_region_with (first | (go_at_call 38; refine (loRun_any _ _ _ _ _ _ _ L F s hs (HA.out.new (N0.out.trans (by first | exact New.refl _ | exact (New.refl _).drew))) (HB.out.new (N0.out.trans (by first | exact New.refl _ | exact (New.refl _).drew))) HF.out).mono ?_; rintro e w2 ⟨B, bf, cf, bc, bn, rfl, bx, lo, n2⟩; (try replace n2 := New.undrew n2); have e0 := n2.cell a0; have e1 := n2.cell a1; have c2 := bx.c2; have cz := (bx.atC (i := L.length) (by omega)).1; rw [← HZ.out] at cz; have BX := Lib.hid bx; clear bx))
  all_goals (go_wp2; go_ret)
  all_goals exact ⟨ret_int rfl, N0.out.trans n2⟩

set_option maxRecDepth 100000 in
set_option maxHeartbeats 1000000 in
theorem sWaterUsed_any (w : World) (aa ab : Option Addr) (n m ca cb : Nat) (L : List Int) (F : List Bool) (s : ByteArray) (hs : s.size ≤ 1048576) (h1 : Ints w aa n ca L) (h2 : Bools w ab m cb F) :
    Calls Tryd.prog 24 #[.agg #[.slice aa n ca, .slice ab m cb], .string s] w fun e w' => e = .returned (.tuple #[.int .i64 (wusM L F s), .bool (usB L F s)]) ∧ New w w' := by
  have HA := Lib.hid h1; clear h1
  have HB := Lib.hid h2; clear h2
  cases hg : usB L F s
  case false =>
    rw [wusM_no hg]
    have HG := Lib.hid hg; clear hg
    go_enter Tryd.func24, Tryd.ntmps24
    go_wp2_with fail
    refine (loAsked_any _ _ _ _ _ _ _ L F s hs (HA.out.new (by repeat (first | with_reducible exact New.refl _ | with_reducible assumption | refine New.drewN ?_ _ | refine New.drew ?_ | refine New.alloc ?_ _ | refine New.setCell ?_ (by first | omega | (simp; omega) | (simp; done)) _ | (refine New.trans ?_ (by assumption))))) (HB.out.new (by repeat (first | with_reducible exact New.refl _ | with_reducible assumption | refine New.drewN ?_ _ | refine New.drew ?_ | refine New.alloc ?_ _ | refine New.setCell ?_ (by first | omega | (simp; omega) | (simp; done)) _ | (refine New.trans ?_ (by assumption)))))).mono ?_
    rintro e w1 ⟨rfl, n1⟩
    have NW := Lib.hid (show New w w1 from New.trans (by repeat (first | with_reducible exact New.refl _ | with_reducible assumption | refine New.drewN ?_ _ | refine New.drew ?_ | refine New.alloc ?_ _ | refine New.setCell ?_ (by first | omega | (simp; omega) | (simp; done)) _ | (refine New.trans ?_ (by assumption)))) n1); clear n1
    rw [HG.out]
    go_wp2
    go_ret2
    exact ⟨rfl, NW.out⟩
  case true =>
    rw [wusM_yes hg]
    obtain ⟨hf, ht⟩ := usB_iff.1 hg
    have h40 := trB_le ht
    obtain ⟨z, hz⟩ : ∃ z, z = IntKind.i64.wrap (-((stE L F s).C[L.length]?.getD 0)) := ⟨_, rfl⟩
    rw [← hz]
    have HZ := Lib.hid hz; clear hz
    have HF := Lib.hid hf; clear hf ht
    have HG := Lib.hid hg; clear hg
    go_enter Tryd.func24, Tryd.ntmps24
    go_wp2_with fail
    refine (loAsked_any _ _ _ _ _ _ _ L F s hs (HA.out.new (by repeat (first | with_reducible exact New.refl _ | with_reducible assumption | refine New.drewN ?_ _ | refine New.drew ?_ | refine New.alloc ?_ _ | refine New.setCell ?_ (by first | omega | (simp; omega) | (simp; done)) _ | (refine New.trans ?_ (by assumption))))) (HB.out.new (by repeat (first | with_reducible exact New.refl _ | with_reducible assumption | refine New.drewN ?_ _ | refine New.drew ?_ | refine New.alloc ?_ _ | refine New.setCell ?_ (by first | omega | (simp; omega) | (simp; done)) _ | (refine New.trans ?_ (by assumption)))))).mono ?_
    rintro e w1 ⟨rfl, n1⟩
    have a0 : w1.cell? ⟨w.heap.size, 0, none⟩ = some (.slice aa n ca) := n1.cell (by simp [go_sem])
    have a1 : w1.cell? ⟨w.heap.size, 1, none⟩ = some (.slice ab m cb) := n1.cell (by simp [go_sem])
    have NW := Lib.hid (show New w w1 from New.trans (by repeat (first | with_reducible exact New.refl _ | with_reducible assumption | refine New.drewN ?_ _ | refine New.drew ?_ | refine New.alloc ?_ _ | refine New.setCell ?_ (by first | omega | (simp; omega) | (simp; done)) _ | (refine New.trans ?_ (by assumption)))) n1); clear n1
    rw [HG.out]
    go_wp2_with fail
    refine (loUsed_any _ _ _ _ _ _ _ L F s h40 (HA.out.new NW.out) (HB.out.new NW.out) HF.out).mono ?_
    rw [← HZ.out]
    rintro e w2 ⟨rfl, n2⟩
    have N2 := Lib.hid (NW.out.trans n2); clear n2 a0 a1
    go_wp2
    go_ret2
    exact ⟨rfl, N2.out⟩

set_option maxRecDepth 100000 in
set_option maxHeartbeats 1000000 in
theorem iWaterUsed_any (w : World) (aa ab : Option Addr) (n m ca cb : Nat) (L : List Int) (F : List Bool) (s : ByteArray) (hs : s.size ≤ 1048576) (h1 : Ints w aa n ca L) (h2 : Bools w ab m cb F) :
    Calls Tryd.prog 25 #[.agg #[.slice aa n ca, .slice ab m cb], .string s] w fun e w' => e = .returned (.tuple #[.int .i64 (wusM L F s), .bool (usB L F s)]) ∧ New w w' := by
  have hn := h1.len
  have HA := Lib.hid h1; clear h1
  have HB := Lib.hid h2; clear h2
  cases hg : usB L F s
  case false =>
    rw [wusM_no hg]
    have HG := Lib.hid hg; clear hg hn
    go_enter Tryd.func25, Tryd.ntmps25
    go_wp2_with fail
    refine (iStretchChanges_any _ _ _ _ _ _ _ L F s hs (HA.out.new (by repeat (first | with_reducible exact New.refl _ | with_reducible assumption | refine New.drewN ?_ _ | refine New.drew ?_ | refine New.alloc ?_ _ | refine New.setCell ?_ (by first | omega | (simp; omega) | (simp; done)) _ | (refine New.trans ?_ (by assumption))))) (HB.out.new (by repeat (first | with_reducible exact New.refl _ | with_reducible assumption | refine New.drewN ?_ _ | refine New.drew ?_ | refine New.alloc ?_ _ | refine New.setCell ?_ (by first | omega | (simp; omega) | (simp; done)) _ | (refine New.trans ?_ (by assumption)))))).mono ?_
    rintro e w1 ⟨sa, k, sc, rfl, ow, n1⟩
    clear ow
    have NW := Lib.hid (show New w w1 from New.trans (by repeat (first | with_reducible exact New.refl _ | with_reducible assumption | refine New.drewN ?_ _ | refine New.drew ?_ | refine New.alloc ?_ _ | refine New.setCell ?_ (by first | omega | (simp; omega) | (simp; done)) _ | (refine New.trans ?_ (by assumption)))) n1); clear n1
    rw [HG.out]
    go_wp2
    go_ret2
    exact ⟨rfl, NW.out⟩
  case true =>
    rw [wusM_yes hg]
    have hl := usB_len hg
    obtain rfl := hn
    obtain ⟨z, hz⟩ : ∃ z, z = (stE L F s).C[L.length]?.getD 0 := ⟨_, rfl⟩
    rw [← hz]
    have HZ := Lib.hid hz; clear hz
    have hc := hl.2.c
    have h6 := hl.1
    have HG := Lib.hid hg; clear hg hl
    go_enter Tryd.func25, Tryd.ntmps25
    go_wp2_with fail
    refine (iStretchChanges_any _ _ _ _ _ _ _ L F s hs (HA.out.new (by repeat (first | with_reducible exact New.refl _ | with_reducible assumption | refine New.drewN ?_ _ | refine New.drew ?_ | refine New.alloc ?_ _ | refine New.setCell ?_ (by first | omega | (simp; omega) | (simp; done)) _ | (refine New.trans ?_ (by assumption))))) (HB.out.new (by repeat (first | with_reducible exact New.refl _ | with_reducible assumption | refine New.drewN ?_ _ | refine New.drew ?_ | refine New.alloc ?_ _ | refine New.setCell ?_ (by first | omega | (simp; omega) | (simp; done)) _ | (refine New.trans ?_ (by assumption)))))).mono ?_
    rintro e w1 ⟨sa, k, sc, rfl, ow, n1⟩
    rw [chgM_yes HG.out] at ow
    have hk := ow.1
    rw [hc] at hk
    subst hk
    obtain ⟨bb, ob, rfl, gb, zb⟩ := ow.ints.at (j := L.length) (by omega)
    rw [← HZ.out] at gb
    clear ow zb hc
    have a0 : w1.cell? ⟨w.heap.size, 0, none⟩ = some (.slice aa L.length ca) := n1.cell (by simp [go_sem])
    have NW := Lib.hid (show New w w1 from New.trans (by repeat (first | with_reducible exact New.refl _ | with_reducible assumption | refine New.drewN ?_ _ | refine New.drew ?_ | refine New.alloc ?_ _ | refine New.setCell ?_ (by first | omega | (simp; omega) | (simp; done)) _ | (refine New.trans ?_ (by assumption)))) n1); clear n1
    rw [HG.out]
    go_wp2
    go_ret2
    refine ⟨?_, NW.out⟩
    rw [← wrap64_is]
    rfl
end Go.Proofs.YtmhcnomkkjgidaaDoor
