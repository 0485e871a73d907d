/- The law of MixedShare: its walk. -/
import Derived.Test.YtidklnpohgmnpaaHelpB
import Derived.Test.YtidklnpohgmnpaaOpenBr
import Derived.Test.YtidklnpohgmnpaaMx
import Derived.Test.YtidklnpohgmnpaaCutB
import Derived.Deep.RegionHeld3
import Derived.Deep.DeepCutAuto
namespace Go.Proofs.Ytidklnpohgmnpaa
open Go.RowKit

set_option maxRecDepth 100000 in
set_option maxHeartbeats 20000000 in
theorem law_MixedShare (w : World) (a0s : Option Addr) (n0s c0s : Nat) (l0s : List Int) (a0h : Option Addr) (n0h c0h : Nat) (l0h : List Int) (a0k : Option Addr) (n0k c0k : Nat) (l0k : List (Int × Int)) (h0s : Ints w a0s n0s c0s l0s) (h0h : Ints w a0h n0h c0h l0h) (h0k : Ratios w a0k n0k c0k l0k) :
    Calls Try.prog 9 #[.agg #[.slice a0s n0s c0s, .slice a0h n0h c0h, .slice a0k n0k c0k]] w fun e w' => e = .returned (.bool true) ∧ New w w' := by
  have HA0s := Lib.hid h0s; clear h0s
  have HA0h := Lib.hid h0h; clear h0h
  have HA0k := Lib.hid h0k; clear h0k
  have qA0s := HA0s.out.2.2.1
  have qA0h := HA0h.out.2.2.1
  have qA0k := HA0k.out.2.2.1
  go_enter Try.func9, Try.ntmps9
  go_wp2_with fail
  refine (szBrine_any _ _ _ _ _ _ _ _ _ _ _ qA0s qA0h qA0k (by omega) (by omega)).mono ?_
  rintro e z1 ⟨rz1, rfl, g1z1, g2z1, g3z1, n_z1⟩
  have Gz1 := Lib.hid g3z1; clear g3z1
  have b0_0_z1 : z1.cell? ⟨w.heap.size, 0, none⟩ = some (.slice a0s n0s c0s) := n_z1.cell (by simp [go_sem])
  have b0_1_z1 : z1.cell? ⟨w.heap.size, 1, none⟩ = some (.slice a0h n0h c0h) := n_z1.cell (by simp [go_sem])
  have b0_2_z1 : z1.cell? ⟨w.heap.size, 2, none⟩ = some (.slice a0k n0k c0k) := n_z1.cell (by simp [go_sem])
  have Kz1 := Lib.hid (show New w z1 from New.trans (by repeat (first | with_reducible exact New.refl _ | with_reducible assumption | refine New.drewN ?_ _ | refine New.drew ?_ | refine New.alloc ?_ _ | refine New.setCell ?_ (by first | omega | (simp; omega) | (simp; done)) _ | (refine New.trans ?_ (by assumption)))) n_z1); clear n_z1
  by_cases hrz1 : rz1 < 0
  · go_wp2
    go_ret
    exact ⟨rfl, Kz1.out⟩
  · have HSZ := Gz1.out (by omega)
    have hn0s : n0s ≤ 1048576 := by have := HSZ.1; omega
    have hn0h : n0h ≤ 1048576 := by have := HSZ.1; omega
    have hn0k : n0k ≤ 1048576 := by have := HSZ.1; omega
    clear HSZ
    go_wp2_with fail
    refine (toBrine_any _ _ _ _ _ _ _ _ _ _ l0s l0h l0k (HA0s.out.new Kz1.out) (HA0h.out.new Kz1.out) (HA0k.out.new Kz1.out)  hn0s hn0h hn0k).mono ?_
    rintro e u2 ⟨x0sa, x0sc, x0ha, x0hc, x0ka, x0kc, rfl, oX0, n_u2⟩
    have b0_0_u2 : u2.cell? ⟨w.heap.size, 0, none⟩ = some (.slice a0s n0s c0s) := n_u2.cell b0_0_z1
    have b0_1_u2 : u2.cell? ⟨w.heap.size, 1, none⟩ = some (.slice a0h n0h c0h) := n_u2.cell b0_1_z1
    have b0_2_u2 : u2.cell? ⟨w.heap.size, 2, none⟩ = some (.slice a0k n0k c0k) := n_u2.cell b0_2_z1
    have Ku2 := Lib.hid n_u2; clear n_u2
    clear b0_0_z1 b0_1_z1 b0_2_z1
    have OX0s := Lib.hid oX0.s
    have OX0h := Lib.hid oX0.h
    have OX0k := Lib.hid oX0.k
    have OX0 := Lib.hid oX0; clear oX0
    go_wp2_with fail
    refine (sMixedShare_any _ _ _ _ _ _ _ _ _ _ l0s l0h l0k OX0s.out OX0h.out OX0k.out).mono ?_
    rintro e u3 ⟨rfl, n_u3⟩
    have b0_0_u3 : u3.cell? ⟨w.heap.size, 0, none⟩ = some (.slice a0s n0s c0s) := n_u3.cell b0_0_u2
    have b0_1_u3 : u3.cell? ⟨w.heap.size, 1, none⟩ = some (.slice a0h n0h c0h) := n_u3.cell b0_1_u2
    have b0_2_u3 : u3.cell? ⟨w.heap.size, 2, none⟩ = some (.slice a0k n0k c0k) := n_u3.cell b0_2_u2
    have Ku3 := Lib.hid n_u3; clear n_u3
    clear b0_0_u2 b0_1_u2 b0_2_u2
    go_upto_region 6 with fail
    obtain ⟨v4, hv4⟩ : ∃ v, v = u3.alloc (.cells #[.int .i64 ((mxM l0s l0h l0k).1), .int .i64 ((mxM l0s l0h l0k).2)] 25) := ⟨_, rfl⟩
    rw [← hv4]
    have b0_0_v4 : v4.cell? ⟨w.heap.size, 0, none⟩ = some (.slice a0s n0s c0s) := by rw [hv4]; exact World.cell_kept b0_0_u3
    have b0_1_v4 : v4.cell? ⟨w.heap.size, 1, none⟩ = some (.slice a0h n0h c0h) := by rw [hv4]; exact World.cell_kept b0_1_u3
    have b0_2_v4 : v4.cell? ⟨w.heap.size, 2, none⟩ = some (.slice a0k n0k c0k) := by rw [hv4]; exact World.cell_kept b0_2_u3
    clear b0_0_u3 b0_1_u3 b0_2_u3
    have v4c_0_v4 : v4.cell? ⟨u3.heap.size, 0, none⟩ = some (.int .i64 ((mxM l0s l0h l0k).1)) := by rw [hv4]; simp [go_sem]
    have v4c_1_v4 : v4.cell? ⟨u3.heap.size, 1, none⟩ = some (.int .i64 ((mxM l0s l0h l0k).2)) := by rw [hv4]; simp [go_sem]
    have Kv4 := Lib.hid (show New u3 v4 by rw [hv4]; exact (by repeat (first | with_reducible exact New.refl _ | with_reducible assumption | refine New.drewN ?_ _ | refine New.drew ?_ | refine New.alloc ?_ _ | refine New.setCell ?_ (by first | omega | (simp; omega) | (simp; done)) _ | (refine New.trans ?_ (by assumption)))))
    clear hv4
    go_wp2_with fail
    refine (toBrine_any _ _ _ _ _ _ _ _ _ _ l0s l0h l0k (HA0s.out.new (((Kz1.out.trans Ku2.out).trans Ku3.out).trans Kv4.out)) (HA0h.out.new (((Kz1.out.trans Ku2.out).trans Ku3.out).trans Kv4.out)) (HA0k.out.new (((Kz1.out.trans Ku2.out).trans Ku3.out).trans Kv4.out))  hn0s hn0h hn0k).mono ?_
    rintro e u5 ⟨x1sa, x1sc, x1ha, x1hc, x1ka, x1kc, rfl, oX1, n_u5⟩
    have b0_0_u5 : u5.cell? ⟨w.heap.size, 0, none⟩ = some (.slice a0s n0s c0s) := n_u5.cell b0_0_v4
    have b0_1_u5 : u5.cell? ⟨w.heap.size, 1, none⟩ = some (.slice a0h n0h c0h) := n_u5.cell b0_1_v4
    have b0_2_u5 : u5.cell? ⟨w.heap.size, 2, none⟩ = some (.slice a0k n0k c0k) := n_u5.cell b0_2_v4
    have v4c_0_u5 : u5.cell? ⟨u3.heap.size, 0, none⟩ = some (.int .i64 ((mxM l0s l0h l0k).1)) := n_u5.cell v4c_0_v4
    have v4c_1_u5 : u5.cell? ⟨u3.heap.size, 1, none⟩ = some (.int .i64 ((mxM l0s l0h l0k).2)) := n_u5.cell v4c_1_v4
    have Ku5 := Lib.hid n_u5; clear n_u5
    clear b0_0_v4 b0_1_v4 b0_2_v4 v4c_0_v4 v4c_1_v4
    have OX1s := Lib.hid oX1.s
    have OX1h := Lib.hid oX1.h
    have OX1k := Lib.hid oX1.k
    have OX1 := Lib.hid oX1; clear oX1
    go_upto_region 7 with fail
    obtain ⟨v6, hv6⟩ : ∃ v, v = u5.alloc (.cells #[.slice x1sa n0s x1sc, .slice x1ha n0h x1hc, .slice x1ka n0k x1kc] 39) := ⟨_, rfl⟩
    rw [← hv6]
    have b0_0_v6 : v6.cell? ⟨w.heap.size, 0, none⟩ = some (.slice a0s n0s c0s) := by rw [hv6]; exact World.cell_kept b0_0_u5
    have b0_1_v6 : v6.cell? ⟨w.heap.size, 1, none⟩ = some (.slice a0h n0h c0h) := by rw [hv6]; exact World.cell_kept b0_1_u5
    have b0_2_v6 : v6.cell? ⟨w.heap.size, 2, none⟩ = some (.slice a0k n0k c0k) := by rw [hv6]; exact World.cell_kept b0_2_u5
    have v4c_0_v6 : v6.cell? ⟨u3.heap.size, 0, none⟩ = some (.int .i64 ((mxM l0s l0h l0k).1)) := by rw [hv6]; exact World.cell_kept v4c_0_u5
    have v4c_1_v6 : v6.cell? ⟨u3.heap.size, 1, none⟩ = some (.int .i64 ((mxM l0s l0h l0k).2)) := by rw [hv6]; exact World.cell_kept v4c_1_u5
    clear b0_0_u5 b0_1_u5 b0_2_u5 v4c_0_u5 v4c_1_u5
    have v6c_0_v6 : v6.cell? ⟨u5.heap.size, 0, none⟩ = some (.slice x1sa n0s x1sc) := by rw [hv6]; simp [go_sem]
    have v6c_1_v6 : v6.cell? ⟨u5.heap.size, 1, none⟩ = some (.slice x1ha n0h x1hc) := by rw [hv6]; simp [go_sem]
    have v6c_2_v6 : v6.cell? ⟨u5.heap.size, 2, none⟩ = some (.slice x1ka n0k x1kc) := by rw [hv6]; simp [go_sem]
    have Kv6 := Lib.hid (show New u5 v6 by rw [hv6]; exact (by repeat (first | with_reducible exact New.refl _ | with_reducible assumption | refine New.drewN ?_ _ | refine New.drew ?_ | refine New.alloc ?_ _ | refine New.setCell ?_ (by first | omega | (simp; omega) | (simp; done)) _ | (refine New.trans ?_ (by assumption)))))
    clear hv6
    go_wp2_with fail
    refine (iMixedShare_any _ _ _ _ _ _ _ _ _ _ l0s l0h l0k (OX1s.out.new Kv6.out) (OX1h.out.new Kv6.out) (OX1k.out.new Kv6.out)).mono ?_
    rintro e u7 ⟨rfl, n_u7⟩
    have b0_0_u7 : u7.cell? ⟨w.heap.size, 0, none⟩ = some (.slice a0s n0s c0s) := n_u7.cell b0_0_v6
    have b0_1_u7 : u7.cell? ⟨w.heap.size, 1, none⟩ = some (.slice a0h n0h c0h) := n_u7.cell b0_1_v6
    have b0_2_u7 : u7.cell? ⟨w.heap.size, 2, none⟩ = some (.slice a0k n0k c0k) := n_u7.cell b0_2_v6
    have v4c_0_u7 : u7.cell? ⟨u3.heap.size, 0, none⟩ = some (.int .i64 ((mxM l0s l0h l0k).1)) := n_u7.cell v4c_0_v6
    have v4c_1_u7 : u7.cell? ⟨u3.heap.size, 1, none⟩ = some (.int .i64 ((mxM l0s l0h l0k).2)) := n_u7.cell v4c_1_v6
    have v6c_0_u7 : u7.cell? ⟨u5.heap.size, 0, none⟩ = some (.slice x1sa n0s x1sc) := n_u7.cell v6c_0_v6
    have v6c_1_u7 : u7.cell? ⟨u5.heap.size, 1, none⟩ = some (.slice x1ha n0h x1hc) := n_u7.cell v6c_1_v6
    have v6c_2_u7 : u7.cell? ⟨u5.heap.size, 2, none⟩ = some (.slice x1ka n0k x1kc) := n_u7.cell v6c_2_v6
    have Ku7 := Lib.hid n_u7; clear n_u7
    clear b0_0_v6 b0_1_v6 b0_2_v6 v4c_0_v6 v4c_1_v6 v6c_0_v6 v6c_1_v6 v6c_2_v6
    go_upto_region 8 with fail
    obtain ⟨v8, hv8⟩ : ∃ v, v = u7.alloc (.cells #[.int .i64 ((mxM l0s l0h l0k).1), .int .i64 ((mxM l0s l0h l0k).2)] 25) := ⟨_, rfl⟩
    rw [← hv8]
    have b0_0_v8 : v8.cell? ⟨w.heap.size, 0, none⟩ = some (.slice a0s n0s c0s) := by rw [hv8]; exact World.cell_kept b0_0_u7
    have b0_1_v8 : v8.cell? ⟨w.heap.size, 1, none⟩ = some (.slice a0h n0h c0h) := by rw [hv8]; exact World.cell_kept b0_1_u7
    have b0_2_v8 : v8.cell? ⟨w.heap.size, 2, none⟩ = some (.slice a0k n0k c0k) := by rw [hv8]; exact World.cell_kept b0_2_u7
    have v4c_0_v8 : v8.cell? ⟨u3.heap.size, 0, none⟩ = some (.int .i64 ((mxM l0s l0h l0k).1)) := by rw [hv8]; exact World.cell_kept v4c_0_u7
    have v4c_1_v8 : v8.cell? ⟨u3.heap.size, 1, none⟩ = some (.int .i64 ((mxM l0s l0h l0k).2)) := by rw [hv8]; exact World.cell_kept v4c_1_u7
    have v6c_0_v8 : v8.cell? ⟨u5.heap.size, 0, none⟩ = some (.slice x1sa n0s x1sc) := by rw [hv8]; exact World.cell_kept v6c_0_u7
    have v6c_1_v8 : v8.cell? ⟨u5.heap.size, 1, none⟩ = some (.slice x1ha n0h x1hc) := by rw [hv8]; exact World.cell_kept v6c_1_u7
    have v6c_2_v8 : v8.cell? ⟨u5.heap.size, 2, none⟩ = some (.slice x1ka n0k x1kc) := by rw [hv8]; exact World.cell_kept v6c_2_u7
    clear b0_0_u7 b0_1_u7 b0_2_u7 v4c_0_u7 v4c_1_u7 v6c_0_u7 v6c_1_u7 v6c_2_u7
    have v8c_0_v8 : v8.cell? ⟨u7.heap.size, 0, none⟩ = some (.int .i64 ((mxM l0s l0h l0k).1)) := by rw [hv8]; simp [go_sem]
    have v8c_1_v8 : v8.cell? ⟨u7.heap.size, 1, none⟩ = some (.int .i64 ((mxM l0s l0h l0k).2)) := by rw [hv8]; simp [go_sem]
    have Kv8 := Lib.hid (show New u7 v8 by rw [hv8]; exact (by repeat (first | with_reducible exact New.refl _ | with_reducible assumption | refine New.drewN ?_ _ | refine New.drew ?_ | refine New.alloc ?_ _ | refine New.setCell ?_ (by first | omega | (simp; omega) | (simp; done)) _ | (refine New.trans ?_ (by assumption)))))
    clear hv8
    go_wp2_with fail
    refine (eqRatio_one _ _ _).mono ?_
    rintro e u9 ⟨rfl, n_u9⟩
    have b0_0_u9 : u9.cell? ⟨w.heap.size, 0, none⟩ = some (.slice a0s n0s c0s) := n_u9.cell b0_0_v8
    have b0_1_u9 : u9.cell? ⟨w.heap.size, 1, none⟩ = some (.slice a0h n0h c0h) := n_u9.cell b0_1_v8
    have b0_2_u9 : u9.cell? ⟨w.heap.size, 2, none⟩ = some (.slice a0k n0k c0k) := n_u9.cell b0_2_v8
    have v4c_0_u9 : u9.cell? ⟨u3.heap.size, 0, none⟩ = some (.int .i64 ((mxM l0s l0h l0k).1)) := n_u9.cell v4c_0_v8
    have v4c_1_u9 : u9.cell? ⟨u3.heap.size, 1, none⟩ = some (.int .i64 ((mxM l0s l0h l0k).2)) := n_u9.cell v4c_1_v8
    have v6c_0_u9 : u9.cell? ⟨u5.heap.size, 0, none⟩ = some (.slice x1sa n0s x1sc) := n_u9.cell v6c_0_v8
    have v6c_1_u9 : u9.cell? ⟨u5.heap.size, 1, none⟩ = some (.slice x1ha n0h x1hc) := n_u9.cell v6c_1_v8
    have v6c_2_u9 : u9.cell? ⟨u5.heap.size, 2, none⟩ = some (.slice x1ka n0k x1kc) := n_u9.cell v6c_2_v8
    have v8c_0_u9 : u9.cell? ⟨u7.heap.size, 0, none⟩ = some (.int .i64 ((mxM l0s l0h l0k).1)) := n_u9.cell v8c_0_v8
    have v8c_1_u9 : u9.cell? ⟨u7.heap.size, 1, none⟩ = some (.int .i64 ((mxM l0s l0h l0k).2)) := n_u9.cell v8c_1_v8
    have Ku9 := Lib.hid n_u9; clear n_u9
    clear b0_0_v8 b0_1_v8 b0_2_v8 v4c_0_v8 v4c_1_v8 v6c_0_v8 v6c_1_v8 v6c_2_v8 v8c_0_v8 v8c_1_v8
    go_upto_region 10 with fail
    go_region_held3 (fun w' => w'.cell? ⟨w.heap.size, 0, none⟩ = some (.slice a0s n0s c0s) ∧ w'.cell? ⟨w.heap.size, 1, none⟩ = some (.slice a0h n0h c0h) ∧ w'.cell? ⟨w.heap.size, 2, none⟩ = some (.slice a0k n0k c0k) ∧ w'.cell? ⟨u3.heap.size, 0, none⟩ = some (.int .i64 ((mxM l0s l0h l0k).1)) ∧ w'.cell? ⟨u3.heap.size, 1, none⟩ = some (.int .i64 ((mxM l0s l0h l0k).2)) ∧ w'.cell? ⟨u5.heap.size, 0, none⟩ = some (.slice x1sa n0s x1sc) ∧ w'.cell? ⟨u5.heap.size, 1, none⟩ = some (.slice x1ha n0h x1hc) ∧ w'.cell? ⟨u5.heap.size, 2, none⟩ = some (.slice x1ka n0k x1kc) ∧ w'.cell? ⟨u7.heap.size, 0, none⟩ = some (.int .i64 ((mxM l0s l0h l0k).1)) ∧ w'.cell? ⟨u7.heap.size, 1, none⟩ = some (.int .i64 ((mxM l0s l0h l0k).2)))
      (first | exact ⟨b0_0_u9, b0_1_u9, b0_2_u9, v4c_0_u9, v4c_1_u9, v6c_0_u9, v6c_1_u9, v6c_2_u9, v8c_0_u9, v8c_1_u9⟩ | exact ⟨b0_0_u10, b0_1_u10, b0_2_u10, v4c_0_u10, v4c_1_u10, v6c_0_u10, v6c_1_u10, v6c_2_u10, v8c_0_u10, v8c_1_u10⟩ | exact ⟨b0_0_u11, b0_1_u11, b0_2_u11, v4c_0_u11, v4c_1_u11, v6c_0_u11, v6c_1_u11, v6c_2_u11, v8c_0_u11, v8c_1_u11⟩ | fail)
      (first
        | (go_at_call 18; refine (toBrine_any _ _ _ _ _ _ _ _ _ _ l0s l0h l0k ((HA0s.out.new ((((((((Kz1.out.trans Ku2.out).trans Ku3.out).trans Kv4.out).trans Ku5.out).trans Kv6.out).trans Ku7.out).trans Kv8.out).trans Ku9.out)).new (by repeat (first | with_reducible exact New.refl _ | with_reducible assumption | refine New.drewN ?_ _ | refine New.drew ?_ | refine New.alloc ?_ _ | refine New.setCell ?_ (by first | omega | (simp; omega) | (simp; done)) _ | (refine New.trans ?_ (by assumption))))) ((HA0h.out.new ((((((((Kz1.out.trans Ku2.out).trans Ku3.out).trans Kv4.out).trans Ku5.out).trans Kv6.out).trans Ku7.out).trans Kv8.out).trans Ku9.out)).new (by repeat (first | with_reducible exact New.refl _ | with_reducible assumption | refine New.drewN ?_ _ | refine New.drew ?_ | refine New.alloc ?_ _ | refine New.setCell ?_ (by first | omega | (simp; omega) | (simp; done)) _ | (refine New.trans ?_ (by assumption))))) ((HA0k.out.new ((((((((Kz1.out.trans Ku2.out).trans Ku3.out).trans Kv4.out).trans Ku5.out).trans Kv6.out).trans Ku7.out).trans Kv8.out).trans Ku9.out)).new (by repeat (first | with_reducible exact New.refl _ | with_reducible assumption | refine New.drewN ?_ _ | refine New.drew ?_ | refine New.alloc ?_ _ | refine New.setCell ?_ (by first | omega | (simp; omega) | (simp; done)) _ | (refine New.trans ?_ (by assumption)))))  hn0s hn0h hn0k).mono ?_; rintro e u10 ⟨x2sa, x2sc, x2ha, x2hc, x2ka, x2kc, rfl, oX2, n_u10⟩; (try replace n_u10 := New.undrew n_u10); have b0_0_u10 : u10.cell? ⟨w.heap.size, 0, none⟩ = some (.slice a0s n0s c0s) := n_u10.cell b0_0_u9; have b0_1_u10 : u10.cell? ⟨w.heap.size, 1, none⟩ = some (.slice a0h n0h c0h) := n_u10.cell b0_1_u9; have b0_2_u10 : u10.cell? ⟨w.heap.size, 2, none⟩ = some (.slice a0k n0k c0k) := n_u10.cell b0_2_u9; have v4c_0_u10 : u10.cell? ⟨u3.heap.size, 0, none⟩ = some (.int .i64 ((mxM l0s l0h l0k).1)) := n_u10.cell v4c_0_u9; have v4c_1_u10 : u10.cell? ⟨u3.heap.size, 1, none⟩ = some (.int .i64 ((mxM l0s l0h l0k).2)) := n_u10.cell v4c_1_u9; have v6c_0_u10 : u10.cell? ⟨u5.heap.size, 0, none⟩ = some (.slice x1sa n0s x1sc) := n_u10.cell v6c_0_u9; have v6c_1_u10 : u10.cell? ⟨u5.heap.size, 1, none⟩ = some (.slice x1ha n0h x1hc) := n_u10.cell v6c_1_u9; have v6c_2_u10 : u10.cell? ⟨u5.heap.size, 2, none⟩ = some (.slice x1ka n0k x1kc) := n_u10.cell v6c_2_u9; have v8c_0_u10 : u10.cell? ⟨u7.heap.size, 0, none⟩ = some (.int .i64 ((mxM l0s l0h l0k).1)) := n_u10.cell v8c_0_u9; have v8c_1_u10 : u10.cell? ⟨u7.heap.size, 1, none⟩ = some (.int .i64 ((mxM l0s l0h l0k).2)) := n_u10.cell v8c_1_u9; skip)
        | (go_at_call 20; refine (eqBrine_same _ _ _ _ _ _ _ _ _ _ _ _ _ _ _ _ l0s l0h l0k ((OX1s.out.new (((Kv6.out.trans Ku7.out).trans Kv8.out).trans Ku9.out)).new (by repeat (first | with_reducible exact New.refl _ | with_reducible assumption | refine New.drewN ?_ _ | refine New.drew ?_ | refine New.alloc ?_ _ | refine New.setCell ?_ (by first | omega | (simp; omega) | (simp; done)) _ | (refine New.trans ?_ (by assumption))))) ((OX1h.out.new (((Kv6.out.trans Ku7.out).trans Kv8.out).trans Ku9.out)).new (by repeat (first | with_reducible exact New.refl _ | with_reducible assumption | refine New.drewN ?_ _ | refine New.drew ?_ | refine New.alloc ?_ _ | refine New.setCell ?_ (by first | omega | (simp; omega) | (simp; done)) _ | (refine New.trans ?_ (by assumption))))) ((OX1k.out.new (((Kv6.out.trans Ku7.out).trans Kv8.out).trans Ku9.out)).new (by repeat (first | with_reducible exact New.refl _ | with_reducible assumption | refine New.drewN ?_ _ | refine New.drew ?_ | refine New.alloc ?_ _ | refine New.setCell ?_ (by first | omega | (simp; omega) | (simp; done)) _ | (refine New.trans ?_ (by assumption))))) (oX2.s.new (by repeat (first | with_reducible exact New.refl _ | with_reducible assumption | refine New.drewN ?_ _ | refine New.drew ?_ | refine New.alloc ?_ _ | refine New.setCell ?_ (by first | omega | (simp; omega) | (simp; done)) _ | (refine New.trans ?_ (by assumption))))) (oX2.h.new (by repeat (first | with_reducible exact New.refl _ | with_reducible assumption | refine New.drewN ?_ _ | refine New.drew ?_ | refine New.alloc ?_ _ | refine New.setCell ?_ (by first | omega | (simp; omega) | (simp; done)) _ | (refine New.trans ?_ (by assumption))))) (oX2.k.new (by repeat (first | with_reducible exact New.refl _ | with_reducible assumption | refine New.drewN ?_ _ | refine New.drew ?_ | refine New.alloc ?_ _ | refine New.setCell ?_ (by first | omega | (simp; omega) | (simp; done)) _ | (refine New.trans ?_ (by assumption)))))).mono ?_; rintro e u11 ⟨rfl, n_u11⟩; (try replace n_u11 := New.undrew n_u11); have b0_0_u11 : u11.cell? ⟨w.heap.size, 0, none⟩ = some (.slice a0s n0s c0s) := n_u11.cell b0_0_u10; have b0_1_u11 : u11.cell? ⟨w.heap.size, 1, none⟩ = some (.slice a0h n0h c0h) := n_u11.cell b0_1_u10; have b0_2_u11 : u11.cell? ⟨w.heap.size, 2, none⟩ = some (.slice a0k n0k c0k) := n_u11.cell b0_2_u10; have v4c_0_u11 : u11.cell? ⟨u3.heap.size, 0, none⟩ = some (.int .i64 ((mxM l0s l0h l0k).1)) := n_u11.cell v4c_0_u10; have v4c_1_u11 : u11.cell? ⟨u3.heap.size, 1, none⟩ = some (.int .i64 ((mxM l0s l0h l0k).2)) := n_u11.cell v4c_1_u10; have v6c_0_u11 : u11.cell? ⟨u5.heap.size, 0, none⟩ = some (.slice x1sa n0s x1sc) := n_u11.cell v6c_0_u10; have v6c_1_u11 : u11.cell? ⟨u5.heap.size, 1, none⟩ = some (.slice x1ha n0h x1hc) := n_u11.cell v6c_1_u10; have v6c_2_u11 : u11.cell? ⟨u5.heap.size, 2, none⟩ = some (.slice x1ka n0k x1kc) := n_u11.cell v6c_2_u10; have v8c_0_u11 : u11.cell? ⟨u7.heap.size, 0, none⟩ = some (.int .i64 ((mxM l0s l0h l0k).1)) := n_u11.cell v8c_0_u10; have v8c_1_u11 : u11.cell? ⟨u7.heap.size, 1, none⟩ = some (.int .i64 ((mxM l0s l0h l0k).2)) := n_u11.cell v8c_1_u10; skip))
    have Ku10 := Lib.hid (show New u9 u10 from n_u10); clear n_u10
    have Ku11 := Lib.hid (show New u10 u11 from n_u11); clear n_u11
    clear b0_0_u9 b0_1_u9 b0_2_u9 v4c_0_u9 v4c_1_u9 v6c_0_u9 v6c_1_u9 v6c_2_u9 v8c_0_u9 v8c_1_u9
    clear b0_0_u10 b0_1_u10 b0_2_u10 v4c_0_u10 v4c_1_u10 v6c_0_u10 v6c_1_u10 v6c_2_u10 v8c_0_u10 v8c_1_u10
    have OX2s := Lib.hid oX2.s
    have OX2h := Lib.hid oX2.h
    have OX2k := Lib.hid oX2.k
    have OX2 := Lib.hid oX2; clear oX2
    go_wp2
    go_ret
    exact ⟨rfl, ((((((((((Kz1.out.trans Ku2.out).trans Ku3.out).trans Kv4.out).trans Ku5.out).trans Kv6.out).trans Ku7.out).trans Kv8.out).trans Ku9.out).trans Ku10.out).trans Ku11.out)⟩
end Go.Proofs.Ytidklnpohgmnpaa
