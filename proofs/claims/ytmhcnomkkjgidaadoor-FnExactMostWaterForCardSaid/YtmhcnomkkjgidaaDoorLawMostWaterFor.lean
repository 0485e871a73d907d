/- The law of MostWaterFor: its walk. -/
import Derived.Test.YtmhcnomkkjgidaaDoorLwm
import Derived.Test.YtmhcnomkkjgidaaDoorFlG
import Derived.Test.YtmhcnomkkjgidaaDoorOpenF
import Derived.Deep.RegionHeld3
import Derived.Deep.DeepCutAuto
namespace Go.Proofs.YtmhcnomkkjgidaaDoor
open Go.RowKit

set_option maxRecDepth 100000 in
set_option maxHeartbeats 20000000 in
theorem law_MostWaterFor (w : World) (a0s : Option Addr) (n0s c0s : Nat) (l0s : List Int) (a0f : Option Addr) (n0f c0f : Nat) (l0f : List Bool) (x1 : Int) (x2 : Int) (h0s : Ints w a0s n0s c0s l0s) (h0f : Bools w a0f n0f c0f l0f) :
    Calls Tryd.prog 9 #[.agg #[.slice a0s n0s c0s, .slice a0f n0f c0f], .int .i64 x1, .int .i64 x2] w fun e w' => e = .returned (.bool true) ∧ New w w' := by
  have HA0s := Lib.hid h0s; clear h0s
  have HA0f := Lib.hid h0f; clear h0f
  have qA0s := HA0s.out.2.2.1
  have qA0f := HA0f.out.2.2.1
  go_enter Tryd.func9, Tryd.ntmps9
  go_wp2_with fail
  refine (szFlight_any _ _ _ _ _ _ _ _ qA0s qA0f (by omega) (by omega)).mono ?_
  rintro e z1 ⟨rz1, rfl, g1z1, g2z1, g3z1, n_z1⟩
  have Gz1 := Lib.hid g3z1; clear g3z1
  have b0_0_z1 : z1.cell? ⟨w.heap.size, 0, none⟩ = some (.slice a0s n0s c0s) := n_z1.cell (by simp [go_sem])
  have b0_1_z1 : z1.cell? ⟨w.heap.size, 1, none⟩ = some (.slice a0f n0f c0f) := n_z1.cell (by simp [go_sem])
  have Kz1 := Lib.hid (show New w z1 from New.trans (by repeat (first | with_reducible exact New.refl _ | with_reducible assumption | refine New.drewN ?_ _ | refine New.drew ?_ | refine New.alloc ?_ _ | refine New.setCell ?_ (by first | omega | (simp; omega) | (simp; done)) _ | (refine New.trans ?_ (by assumption)))) n_z1); clear n_z1
  have zw_z1 := World.block_lt_of_cell? _ _ b0_1_z1
  simp only at zw_z1
  by_cases hrz1 : rz1 < 0
  · go_wp2
    go_ret
    exact ⟨rfl, Kz1.out⟩
  · have HSZ := Gz1.out (by omega)
    have hn0s : n0s ≤ 1048576 := by have := HSZ.1; omega
    have hn0f : n0f ≤ 1048576 := by have := HSZ.1; omega
    clear HSZ
    go_wp2_with fail
    refine (toFlight_any _ _ _ _ _ _ _ l0s l0f (HA0s.out.new Kz1.out) (HA0f.out.new Kz1.out) hn0s hn0f).mono ?_
    rintro e u2 ⟨x0sa, x0sc, x0fa, x0fc, rfl, oX0, n_u2⟩
    have b0_0_u2 : u2.cell? ⟨w.heap.size, 0, none⟩ = some (.slice a0s n0s c0s) := n_u2.cell b0_0_z1
    have b0_1_u2 : u2.cell? ⟨w.heap.size, 1, none⟩ = some (.slice a0f n0f c0f) := n_u2.cell b0_1_z1
    have Ku2 := Lib.hid n_u2; clear n_u2
    clear b0_0_z1 b0_1_z1
    have OX0s := Lib.hid oX0.s
    have OX0f := Lib.hid oX0.f
    have OX0 := Lib.hid oX0; clear oX0
    go_wp2_with fail
    refine (sMostWaterFor_any _ _ _ _ _ _ _ l0s l0f _ _ OX0s.out OX0f.out).mono ?_
    rintro e u3 ⟨rfl, n_u3⟩
    have b0_0_u3 : u3.cell? ⟨w.heap.size, 0, none⟩ = some (.slice a0s n0s c0s) := n_u3.cell b0_0_u2
    have b0_1_u3 : u3.cell? ⟨w.heap.size, 1, none⟩ = some (.slice a0f n0f c0f) := n_u3.cell b0_1_u2
    have Ku3 := Lib.hid n_u3; clear n_u3
    clear b0_0_u2 b0_1_u2
    go_wp2_with fail
    refine (toFlight_any _ _ _ _ _ _ _ l0s l0f (HA0s.out.new ((Kz1.out.trans Ku2.out).trans Ku3.out)) (HA0f.out.new ((Kz1.out.trans Ku2.out).trans Ku3.out)) hn0s hn0f).mono ?_
    rintro e u4 ⟨x1sa, x1sc, x1fa, x1fc, rfl, oX1, n_u4⟩
    have b0_0_u4 : u4.cell? ⟨w.heap.size, 0, none⟩ = some (.slice a0s n0s c0s) := n_u4.cell b0_0_u3
    have b0_1_u4 : u4.cell? ⟨w.heap.size, 1, none⟩ = some (.slice a0f n0f c0f) := n_u4.cell b0_1_u3
    have Ku4 := Lib.hid n_u4; clear n_u4
    clear b0_0_u3 b0_1_u3
    have OX1s := Lib.hid oX1.s
    have OX1f := Lib.hid oX1.f
    have OX1 := Lib.hid oX1; clear oX1
    go_upto_region 7 with fail
    obtain ⟨v5, hv5⟩ : ∃ v, v = u4.alloc (.cells #[.slice x1sa n0s x1sc, .slice x1fa n0f x1fc] 28) := ⟨_, rfl⟩
    rw [← hv5]
    have b0_0_v5 : v5.cell? ⟨w.heap.size, 0, none⟩ = some (.slice a0s n0s c0s) := by rw [hv5]; exact World.cell_kept b0_0_u4
    have b0_1_v5 : v5.cell? ⟨w.heap.size, 1, none⟩ = some (.slice a0f n0f c0f) := by rw [hv5]; exact World.cell_kept b0_1_u4
    clear b0_0_u4 b0_1_u4
    have v5c_0_v5 : v5.cell? ⟨u4.heap.size, 0, none⟩ = some (.slice x1sa n0s x1sc) := by rw [hv5]; simp [go_sem]
    have v5c_1_v5 : v5.cell? ⟨u4.heap.size, 1, none⟩ = some (.slice x1fa n0f x1fc) := by rw [hv5]; simp [go_sem]
    have Kv5 := Lib.hid (show New u4 v5 by rw [hv5]; exact (by repeat (first | with_reducible exact New.refl _ | with_reducible assumption | refine New.drewN ?_ _ | refine New.drew ?_ | refine New.alloc ?_ _ | refine New.setCell ?_ (by first | omega | (simp; omega) | (simp; done)) _ | (refine New.trans ?_ (by assumption)))))
    have zs_v5 : u4.heap.size < v5.heap.size := by rw [hv5]; simp
    clear hv5
    go_wp2_with fail
    refine (iMostWaterFor_any _ _ _ _ _ _ _ l0s l0f _ _ (OX1s.out.new Kv5.out) (OX1f.out.new Kv5.out)).mono ?_
    rintro e u6 ⟨rfl, n_u6⟩
    have b0_0_u6 : u6.cell? ⟨w.heap.size, 0, none⟩ = some (.slice a0s n0s c0s) := n_u6.cell b0_0_v5
    have b0_1_u6 : u6.cell? ⟨w.heap.size, 1, none⟩ = some (.slice a0f n0f c0f) := n_u6.cell b0_1_v5
    have v5c_0_u6 : u6.cell? ⟨u4.heap.size, 0, none⟩ = some (.slice x1sa n0s x1sc) := n_u6.cell v5c_0_v5
    have v5c_1_u6 : u6.cell? ⟨u4.heap.size, 1, none⟩ = some (.slice x1fa n0f x1fc) := n_u6.cell v5c_1_v5
    have Ku6 := Lib.hid n_u6; clear n_u6
    clear b0_0_v5 b0_1_v5 v5c_0_v5 v5c_1_v5
    go_upto_region 10 with fail
    go_region_held3 (fun w' => w'.cell? ⟨w.heap.size, 0, none⟩ = some (.slice a0s n0s c0s) ∧ w'.cell? ⟨w.heap.size, 1, none⟩ = some (.slice a0f n0f c0f) ∧ w'.cell? ⟨u4.heap.size, 0, none⟩ = some (.slice x1sa n0s x1sc) ∧ w'.cell? ⟨u4.heap.size, 1, none⟩ = some (.slice x1fa n0f x1fc))
      (first | exact ⟨b0_0_u6, b0_1_u6, v5c_0_u6, v5c_1_u6⟩ | exact ⟨b0_0_u7, b0_1_u7, v5c_0_u7, v5c_1_u7⟩ | exact ⟨b0_0_u8, b0_1_u8, v5c_0_u8, v5c_1_u8⟩ | fail)
      (first
        | (go_at_call 14; refine (toFlight_any _ _ _ _ _ _ _ l0s l0f ((HA0s.out.new (((((Kz1.out.trans Ku2.out).trans Ku3.out).trans Ku4.out).trans Kv5.out).trans Ku6.out)).new (by repeat (first | with_reducible exact New.refl _ | with_reducible assumption | refine New.drewN ?_ _ | refine New.drew ?_ | refine New.alloc ?_ _ | refine New.setCell ?_ (by first | omega | (simp; omega) | (simp; done)) _ | (refine New.trans ?_ (by assumption))))) ((HA0f.out.new (((((Kz1.out.trans Ku2.out).trans Ku3.out).trans Ku4.out).trans Kv5.out).trans Ku6.out)).new (by repeat (first | with_reducible exact New.refl _ | with_reducible assumption | refine New.drewN ?_ _ | refine New.drew ?_ | refine New.alloc ?_ _ | refine New.setCell ?_ (by first | omega | (simp; omega) | (simp; done)) _ | (refine New.trans ?_ (by assumption))))) hn0s hn0f).mono ?_; rintro e u7 ⟨x2sa, x2sc, x2fa, x2fc, rfl, oX2, n_u7⟩; (try replace n_u7 := New.undrew n_u7); have b0_0_u7 : u7.cell? ⟨w.heap.size, 0, none⟩ = some (.slice a0s n0s c0s) := n_u7.cell b0_0_u6; have b0_1_u7 : u7.cell? ⟨w.heap.size, 1, none⟩ = some (.slice a0f n0f c0f) := n_u7.cell b0_1_u6; have v5c_0_u7 : u7.cell? ⟨u4.heap.size, 0, none⟩ = some (.slice x1sa n0s x1sc) := n_u7.cell v5c_0_u6; have v5c_1_u7 : u7.cell? ⟨u4.heap.size, 1, none⟩ = some (.slice x1fa n0f x1fc) := n_u7.cell v5c_1_u6; skip)
        | (go_at_call 16; refine (eqFlight_same _ _ _ _ _ _ _ _ _ _ _ l0s l0f ((OX1s.out.new (Kv5.out.trans Ku6.out)).new (by repeat (first | with_reducible exact New.refl _ | with_reducible assumption | refine New.drewN ?_ _ | refine New.drew ?_ | refine New.alloc ?_ _ | refine New.setCell ?_ (by first | omega | (simp; omega) | (simp; done)) _ | (refine New.trans ?_ (by assumption))))) ((OX1f.out.new (Kv5.out.trans Ku6.out)).new (by repeat (first | with_reducible exact New.refl _ | with_reducible assumption | refine New.drewN ?_ _ | refine New.drew ?_ | refine New.alloc ?_ _ | refine New.setCell ?_ (by first | omega | (simp; omega) | (simp; done)) _ | (refine New.trans ?_ (by assumption))))) (oX2.s.new (by repeat (first | with_reducible exact New.refl _ | with_reducible assumption | refine New.drewN ?_ _ | refine New.drew ?_ | refine New.alloc ?_ _ | refine New.setCell ?_ (by first | omega | (simp; omega) | (simp; done)) _ | (refine New.trans ?_ (by assumption))))) (oX2.f.new (by repeat (first | with_reducible exact New.refl _ | with_reducible assumption | refine New.drewN ?_ _ | refine New.drew ?_ | refine New.alloc ?_ _ | refine New.setCell ?_ (by first | omega | (simp; omega) | (simp; done)) _ | (refine New.trans ?_ (by assumption)))))).mono ?_; rintro e u8 ⟨rfl, n_u8⟩; (try replace n_u8 := New.undrew n_u8); have b0_0_u8 : u8.cell? ⟨w.heap.size, 0, none⟩ = some (.slice a0s n0s c0s) := n_u8.cell b0_0_u7; have b0_1_u8 : u8.cell? ⟨w.heap.size, 1, none⟩ = some (.slice a0f n0f c0f) := n_u8.cell b0_1_u7; have v5c_0_u8 : u8.cell? ⟨u4.heap.size, 0, none⟩ = some (.slice x1sa n0s x1sc) := n_u8.cell v5c_0_u7; have v5c_1_u8 : u8.cell? ⟨u4.heap.size, 1, none⟩ = some (.slice x1fa n0f x1fc) := n_u8.cell v5c_1_u7; skip))
    have Ku7 := Lib.hid (show New u6 u7 from n_u7); clear n_u7
    have Ku8 := Lib.hid (show New u7 u8 from n_u8); clear n_u8
    clear b0_0_u6 b0_1_u6 v5c_0_u6 v5c_1_u6
    clear b0_0_u7 b0_1_u7 v5c_0_u7 v5c_1_u7
    have OX2s := Lib.hid oX2.s
    have OX2f := Lib.hid oX2.f
    have OX2 := Lib.hid oX2; clear oX2
    go_wp2
    go_ret
    exact ⟨rfl, (((((((Kz1.out.trans Ku2.out).trans Ku3.out).trans Ku4.out).trans Kv5.out).trans Ku6.out).trans Ku7.out).trans Ku8.out)⟩
end Go.Proofs.YtmhcnomkkjgidaaDoor
