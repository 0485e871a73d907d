/- The law of FillingsOf: its walk. -/
import Derived.Test.YtmhcnomkkjgidaaDoorUfS
import Derived.Test.YtmhcnomkkjgidaaDoorUfI
import Derived.Test.YtmhcnomkkjgidaaDoorFlG
import Derived.Test.YtmhcnomkkjgidaaDoorOpenF
import Derived.Deep.RegionHeld3
import Derived.Deep.DeepCutAuto
namespace Go.Proofs.YtmhcnomkkjgidaaDoor
open Go.RowKit

set_option maxRecDepth 100000 in
set_option maxHeartbeats 20000000 in
theorem law_FillingsOf (w : World) (a0s : Option Addr) (n0s c0s : Nat) (l0s : List Int) (a0f : Option Addr) (n0f c0f : Nat) (l0f : List Bool) (x1 : ByteArray) (h0s : Ints w a0s n0s c0s l0s) (h0f : Bools w a0f n0f c0f l0f) (hz1 : x1.size ≤ maxLen) (hR0 : (fgsM l0s l0f x1).length ≤ 1048576) :
    Calls Tryd.prog 7 #[.agg #[.slice a0s n0s c0s, .slice a0f n0f c0f], .string x1] w fun e w' => e = .returned (.bool true) ∧ New w w' := by
  have HA0s := Lib.hid h0s; clear h0s
  have HA0f := Lib.hid h0f; clear h0f
  have LR0 := Lib.hid hR0; clear hR0
  have qA0s := HA0s.out.2.2.1
  have qA0f := HA0f.out.2.2.1
  unfold maxLen at hz1
  go_enter Tryd.func7, Tryd.ntmps7
  by_cases hn1 : 1048576 < (x1.size : Int)
  · go_wp2
    go_ret
    exact ⟨rfl, (by repeat (first | with_reducible exact New.refl _ | with_reducible assumption | refine New.drewN ?_ _ | refine New.drew ?_ | refine New.alloc ?_ _ | refine New.setCell ?_ (by first | omega | (simp; omega) | (simp; done)) _ | (refine New.trans ?_ (by assumption))))⟩
  · replace hn1 : x1.size ≤ 1048576 := by omega
    go_wp2_with fail
    refine (szFlight_any _ _ _ _ _ _ _ _ qA0s qA0f (by omega) (by omega)).mono ?_
    rintro e z1 ⟨rz1, rfl, g1z1, g2z1, g3z1, n_z1⟩
    have Gz1 := Lib.hid g3z1; clear g3z1
    have b0_0_z1 : z1.cell? ⟨w.heap.size, 0, none⟩ = some (.slice a0s n0s c0s) := n_z1.cell (by simp [go_sem])
    have b0_1_z1 : z1.cell? ⟨w.heap.size, 1, none⟩ = some (.slice a0f n0f c0f) := n_z1.cell (by simp [go_sem])
    have Kz1 := Lib.hid (show New w z1 from New.trans (by repeat (first | with_reducible exact New.refl _ | with_reducible assumption | refine New.drewN ?_ _ | refine New.drew ?_ | refine New.alloc ?_ _ | refine New.setCell ?_ (by first | omega | (simp; omega) | (simp; done)) _ | (refine New.trans ?_ (by assumption)))) n_z1); clear n_z1
    have zw_z1 := World.block_lt_of_cell? _ _ b0_1_z1
    simp only at zw_z1
    by_cases hrz1 : rz1 < 0
    · go_wp2
      go_ret
      exact ⟨rfl, Kz1.out⟩
    · have HSZ := Gz1.out (by omega)
      have hn0s : n0s ≤ 1048576 := by have := HSZ.1; omega
      have hn0f : n0f ≤ 1048576 := by have := HSZ.1; omega
      clear HSZ
      go_wp2_with fail
      refine (toFlight_any _ _ _ _ _ _ _ l0s l0f (HA0s.out.new Kz1.out) (HA0f.out.new Kz1.out) hn0s hn0f).mono ?_
      rintro e u2 ⟨x0sa, x0sc, x0fa, x0fc, rfl, oX0, n_u2⟩
      have b0_0_u2 : u2.cell? ⟨w.heap.size, 0, none⟩ = some (.slice a0s n0s c0s) := n_u2.cell b0_0_z1
      have b0_1_u2 : u2.cell? ⟨w.heap.size, 1, none⟩ = some (.slice a0f n0f c0f) := n_u2.cell b0_1_z1
      have Ku2 := Lib.hid n_u2; clear n_u2
      clear b0_0_z1 b0_1_z1
      have OX0s := Lib.hid oX0.s
      have OX0f := Lib.hid oX0.f
      have OX0 := Lib.hid oX0; clear oX0
      go_wp2_with fail
      refine (sFillingsOf_any _ _ _ _ _ _ _ l0s l0f _ hn1 OX0s.out OX0f.out).mono ?_
      rintro e u3 ⟨p0a, p0n, p0c, rfl, op0, n_u3⟩
      have b0_0_u3 : u3.cell? ⟨w.heap.size, 0, none⟩ = some (.slice a0s n0s c0s) := n_u3.cell b0_0_u2
      have b0_1_u3 : u3.cell? ⟨w.heap.size, 1, none⟩ = some (.slice a0f n0f c0f) := n_u3.cell b0_1_u2
      have Ku3 := Lib.hid n_u3; clear n_u3
      clear b0_0_u2 b0_1_u2
      have Op0 := Lib.hid op0; clear op0
      go_wp2_with fail
      refine (toFlight_any _ _ _ _ _ _ _ l0s l0f (HA0s.out.new ((Kz1.out.trans Ku2.out).trans Ku3.out)) (HA0f.out.new ((Kz1.out.trans Ku2.out).trans Ku3.out)) hn0s hn0f).mono ?_
      rintro e u4 ⟨x1sa, x1sc, x1fa, x1fc, rfl, oX1, n_u4⟩
      have b0_0_u4 : u4.cell? ⟨w.heap.size, 0, none⟩ = some (.slice a0s n0s c0s) := n_u4.cell b0_0_u3
      have b0_1_u4 : u4.cell? ⟨w.heap.size, 1, none⟩ = some (.slice a0f n0f c0f) := n_u4.cell b0_1_u3
      have Ku4 := Lib.hid n_u4; clear n_u4
      clear b0_0_u3 b0_1_u3
      have OX1s := Lib.hid oX1.s
      have OX1f := Lib.hid oX1.f
      have OX1 := Lib.hid oX1; clear oX1
      go_upto_region 9 with fail
      obtain ⟨v5, hv5⟩ : ∃ v, v = u4.alloc (.cells #[.slice x1sa n0s x1sc, .slice x1fa n0f x1fc] 28) := ⟨_, rfl⟩
      rw [← hv5]
      have b0_0_v5 : v5.cell? ⟨w.heap.size, 0, none⟩ = some (.slice a0s n0s c0s) := by rw [hv5]; exact World.cell_kept b0_0_u4
      have b0_1_v5 : v5.cell? ⟨w.heap.size, 1, none⟩ = some (.slice a0f n0f c0f) := by rw [hv5]; exact World.cell_kept b0_1_u4
      clear b0_0_u4 b0_1_u4
      have v5c_0_v5 : v5.cell? ⟨u4.heap.size, 0, none⟩ = some (.slice x1sa n0s x1sc) := by rw [hv5]; simp [go_sem]
      have v5c_1_v5 : v5.cell? ⟨u4.heap.size, 1, none⟩ = some (.slice x1fa n0f x1fc) := by rw [hv5]; simp [go_sem]
      have Kv5 := Lib.hid (show New u4 v5 by rw [hv5]; exact (by repeat (first | with_reducible exact New.refl _ | with_reducible assumption | refine New.drewN ?_ _ | refine New.drew ?_ | refine New.alloc ?_ _ | refine New.setCell ?_ (by first | omega | (simp; omega) | (simp; done)) _ | (refine New.trans ?_ (by assumption)))))
      have zs_v5 : u4.heap.size < v5.heap.size := by rw [hv5]; simp
      clear hv5
      go_wp2_with fail
      refine (iFillingsOf_any _ _ _ _ _ _ _ l0s l0f _ hn1 (OX1s.out.new Kv5.out) (OX1f.out.new Kv5.out)).mono ?_
      rintro e u6 ⟨g0a, g0n, g0c, rfl, og0, n_u6⟩
      have b0_0_u6 : u6.cell? ⟨w.heap.size, 0, none⟩ = some (.slice a0s n0s c0s) := n_u6.cell b0_0_v5
      have b0_1_u6 : u6.cell? ⟨w.heap.size, 1, none⟩ = some (.slice a0f n0f c0f) := n_u6.cell b0_1_v5
      have v5c_0_u6 : u6.cell? ⟨u4.heap.size, 0, none⟩ = some (.slice x1sa n0s x1sc) := n_u6.cell v5c_0_v5
      have v5c_1_u6 : u6.cell? ⟨u4.heap.size, 1, none⟩ = some (.slice x1fa n0f x1fc) := n_u6.cell v5c_1_v5
      have Ku6 := Lib.hid n_u6; clear n_u6
      clear b0_0_v5 b0_1_v5 v5c_0_v5 v5c_1_v5
      have Og0 := Lib.hid og0; clear og0
      go_wp2_with fail
      refine (eqIntS_same _ _ _ _ _ _ _ _ Og0.out.ints (Op0.out.new ((Ku4.out.trans Kv5.out).trans Ku6.out)).ints).mono ?_
      rintro e u7 ⟨rfl, n_u7⟩
      have b0_0_u7 : u7.cell? ⟨w.heap.size, 0, none⟩ = some (.slice a0s n0s c0s) := n_u7.cell b0_0_u6
      have b0_1_u7 : u7.cell? ⟨w.heap.size, 1, none⟩ = some (.slice a0f n0f c0f) := n_u7.cell b0_1_u6
      have v5c_0_u7 : u7.cell? ⟨u4.heap.size, 0, none⟩ = some (.slice x1sa n0s x1sc) := n_u7.cell v5c_0_u6
      have v5c_1_u7 : u7.cell? ⟨u4.heap.size, 1, none⟩ = some (.slice x1fa n0f x1fc) := n_u7.cell v5c_1_u6
      have Ku7 := Lib.hid n_u7; clear n_u7
      clear b0_0_u6 b0_1_u6 v5c_0_u6 v5c_1_u6
      go_upto_region 12 with fail
      go_region_held3 (fun w' => w'.cell? ⟨w.heap.size, 0, none⟩ = some (.slice a0s n0s c0s) ∧ w'.cell? ⟨w.heap.size, 1, none⟩ = some (.slice a0f n0f c0f) ∧ w'.cell? ⟨u4.heap.size, 0, none⟩ = some (.slice x1sa n0s x1sc) ∧ w'.cell? ⟨u4.heap.size, 1, none⟩ = some (.slice x1fa n0f x1fc))
        (first | exact ⟨b0_0_u7, b0_1_u7, v5c_0_u7, v5c_1_u7⟩ | exact ⟨b0_0_u8, b0_1_u8, v5c_0_u8, v5c_1_u8⟩ | exact ⟨b0_0_u9, b0_1_u9, v5c_0_u9, v5c_1_u9⟩ | fail)
        (first
          | (go_at_call 14; refine (toFlight_any _ _ _ _ _ _ _ l0s l0f ((HA0s.out.new ((((((Kz1.out.trans Ku2.out).trans Ku3.out).trans Ku4.out).trans Kv5.out).trans Ku6.out).trans Ku7.out)).new (by repeat (first | with_reducible exact New.refl _ | with_reducible assumption | refine New.drewN ?_ _ | refine New.drew ?_ | refine New.alloc ?_ _ | refine New.setCell ?_ (by first | omega | (simp; omega) | (simp; done)) _ | (refine New.trans ?_ (by assumption))))) ((HA0f.out.new ((((((Kz1.out.trans Ku2.out).trans Ku3.out).trans Ku4.out).trans Kv5.out).trans Ku6.out).trans Ku7.out)).new (by repeat (first | with_reducible exact New.refl _ | with_reducible assumption | refine New.drewN ?_ _ | refine New.drew ?_ | refine New.alloc ?_ _ | refine New.setCell ?_ (by first | omega | (simp; omega) | (simp; done)) _ | (refine New.trans ?_ (by assumption))))) hn0s hn0f).mono ?_; rintro e u8 ⟨x2sa, x2sc, x2fa, x2fc, rfl, oX2, n_u8⟩; (try replace n_u8 := New.undrew n_u8); have b0_0_u8 : u8.cell? ⟨w.heap.size, 0, none⟩ = some (.slice a0s n0s c0s) := n_u8.cell b0_0_u7; have b0_1_u8 : u8.cell? ⟨w.heap.size, 1, none⟩ = some (.slice a0f n0f c0f) := n_u8.cell b0_1_u7; have v5c_0_u8 : u8.cell? ⟨u4.heap.size, 0, none⟩ = some (.slice x1sa n0s x1sc) := n_u8.cell v5c_0_u7; have v5c_1_u8 : u8.cell? ⟨u4.heap.size, 1, none⟩ = some (.slice x1fa n0f x1fc) := n_u8.cell v5c_1_u7; skip)
          | (go_at_call 16; refine (eqFlight_same _ _ _ _ _ _ _ _ _ _ _ l0s l0f ((OX1s.out.new ((Kv5.out.trans Ku6.out).trans Ku7.out)).new (by repeat (first | with_reducible exact New.refl _ | with_reducible assumption | refine New.drewN ?_ _ | refine New.drew ?_ | refine New.alloc ?_ _ | refine New.setCell ?_ (by first | omega | (simp; omega) | (simp; done)) _ | (refine New.trans ?_ (by assumption))))) ((OX1f.out.new ((Kv5.out.trans Ku6.out).trans Ku7.out)).new (by repeat (first | with_reducible exact New.refl _ | with_reducible assumption | refine New.drewN ?_ _ | refine New.drew ?_ | refine New.alloc ?_ _ | refine New.setCell ?_ (by first | omega | (simp; omega) | (simp; done)) _ | (refine New.trans ?_ (by assumption))))) (oX2.s.new (by repeat (first | with_reducible exact New.refl _ | with_reducible assumption | refine New.drewN ?_ _ | refine New.drew ?_ | refine New.alloc ?_ _ | refine New.setCell ?_ (by first | omega | (simp; omega) | (simp; done)) _ | (refine New.trans ?_ (by assumption))))) (oX2.f.new (by repeat (first | with_reducible exact New.refl _ | with_reducible assumption | refine New.drewN ?_ _ | refine New.drew ?_ | refine New.alloc ?_ _ | refine New.setCell ?_ (by first | omega | (simp; omega) | (simp; done)) _ | (refine New.trans ?_ (by assumption)))))).mono ?_; rintro e u9 ⟨rfl, n_u9⟩; (try replace n_u9 := New.undrew n_u9); have b0_0_u9 : u9.cell? ⟨w.heap.size, 0, none⟩ = some (.slice a0s n0s c0s) := n_u9.cell b0_0_u8; have b0_1_u9 : u9.cell? ⟨w.heap.size, 1, none⟩ = some (.slice a0f n0f c0f) := n_u9.cell b0_1_u8; have v5c_0_u9 : u9.cell? ⟨u4.heap.size, 0, none⟩ = some (.slice x1sa n0s x1sc) := n_u9.cell v5c_0_u8; have v5c_1_u9 : u9.cell? ⟨u4.heap.size, 1, none⟩ = some (.slice x1fa n0f x1fc) := n_u9.cell v5c_1_u8; skip))
      have Ku8 := Lib.hid (show New u7 u8 from n_u8); clear n_u8
      have Ku9 := Lib.hid (show New u8 u9 from n_u9); clear n_u9
      clear b0_0_u7 b0_1_u7 v5c_0_u7 v5c_1_u7
      clear b0_0_u8 b0_1_u8 v5c_0_u8 v5c_1_u8
      have OX2s := Lib.hid oX2.s
      have OX2f := Lib.hid oX2.f
      have OX2 := Lib.hid oX2; clear oX2
      go_wp2_with fail
      refine (markFlight_any _ u3.heap.size u4.heap.size _ _ _ _ _ _ _ _ _ (OX1.out.new ((((Kv5.out.trans Ku6.out).trans Ku7.out).trans Ku8.out).trans Ku9.out)) (by omega) (by omega)).mono ?_
      rintro e u10 ⟨rfl, mu10, ku10⟩
      have b0_0_u10 : u10.cell? ⟨w.heap.size, 0, none⟩ = some (.slice a0s n0s c0s) := ku10.cell b0_0_u9 (fun h => by have s0 := Kz1.out.size; have s1 := Ku2.out.size; have s2 := Ku3.out.size; have s3 := Ku4.out.size; have s4 := Kv5.out.size; have s5 := Ku6.out.size; have s6 := Ku7.out.size; have s7 := Ku8.out.size; have s8 := Ku9.out.size; skip; simp only at h; omega)
      have b0_1_u10 : u10.cell? ⟨w.heap.size, 1, none⟩ = some (.slice a0f n0f c0f) := ku10.cell b0_1_u9 (fun h => by have s0 := Kz1.out.size; have s1 := Ku2.out.size; have s2 := Ku3.out.size; have s3 := Ku4.out.size; have s4 := Kv5.out.size; have s5 := Ku6.out.size; have s6 := Ku7.out.size; have s7 := Ku8.out.size; have s8 := Ku9.out.size; skip; simp only at h; omega)
      have v5c_0_u10 : u10.cell? ⟨u4.heap.size, 0, none⟩ = some (.slice x1sa n0s x1sc) := ku10.cell v5c_0_u9 (fun h => by have s0 := Kz1.out.size; have s1 := Ku2.out.size; have s2 := Ku3.out.size; have s3 := Ku4.out.size; have s4 := Kv5.out.size; have s5 := Ku6.out.size; have s6 := Ku7.out.size; have s7 := Ku8.out.size; have s8 := Ku9.out.size; skip; simp only at h; omega)
      have v5c_1_u10 : u10.cell? ⟨u4.heap.size, 1, none⟩ = some (.slice x1fa n0f x1fc) := ku10.cell v5c_1_u9 (fun h => by have s0 := Kz1.out.size; have s1 := Ku2.out.size; have s2 := Ku3.out.size; have s3 := Ku4.out.size; have s4 := Kv5.out.size; have s5 := Ku6.out.size; have s6 := Ku7.out.size; have s7 := Ku8.out.size; have s8 := Ku9.out.size; skip; simp only at h; omega)
      have Ku10 := Lib.hid ku10; clear ku10
      have Op0_u10 := Lib.hid ((Op0.out.new (((((Ku4.out.trans Kv5.out).trans Ku6.out).trans Ku7.out).trans Ku8.out).trans Ku9.out)).chg Ku10.out (fun b h1 h2 h => by have s0 := Kz1.out.size; have s1 := Ku2.out.size; have s2 := Ku3.out.size; have s3 := Ku4.out.size; have s4 := Kv5.out.size; have s5 := Ku6.out.size; have s6 := Ku7.out.size; have s7 := Ku8.out.size; have s8 := Ku9.out.size; skip; omega))
      have Og0_u10 := Lib.hid ((Og0.out.new ((Ku7.out.trans Ku8.out).trans Ku9.out)).chg Ku10.out (fun b h1 h2 h => by have s0 := Kz1.out.size; have s1 := Ku2.out.size; have s2 := Ku3.out.size; have s3 := Ku4.out.size; have s4 := Kv5.out.size; have s5 := Ku6.out.size; have s6 := Ku7.out.size; have s7 := Ku8.out.size; have s8 := Ku9.out.size; skip; omega))
      clear mu10
      clear b0_0_u9 b0_1_u9 v5c_0_u9 v5c_1_u9
      have eu10 : ¬ 1 + n0s + n0f < 0 := by omega
      go_wp2_with fail
      refine (eqIntS_same _ _ _ _ _ _ _ _ Og0_u10.out.ints Op0_u10.out.ints).mono ?_
      rintro e u11 ⟨rfl, n_u11⟩
      have b0_0_u11 : u11.cell? ⟨w.heap.size, 0, none⟩ = some (.slice a0s n0s c0s) := n_u11.cell b0_0_u10
      have b0_1_u11 : u11.cell? ⟨w.heap.size, 1, none⟩ = some (.slice a0f n0f c0f) := n_u11.cell b0_1_u10
      have v5c_0_u11 : u11.cell? ⟨u4.heap.size, 0, none⟩ = some (.slice x1sa n0s x1sc) := n_u11.cell v5c_0_u10
      have v5c_1_u11 : u11.cell? ⟨u4.heap.size, 1, none⟩ = some (.slice x1fa n0f x1fc) := n_u11.cell v5c_1_u10
      have Ku11 := Lib.hid n_u11; clear n_u11
      clear b0_0_u10 b0_1_u10 v5c_0_u10 v5c_1_u10
      go_wp2_with fail
      have yu12 : g0n ≤ 1048576 := by have q1 := Og0_u10.out.1; have q2 := LR0.out; omega
      refine (markIntS_any _ v5.heap.size u6.heap.size _ _ _ _ _ (Og0_u10.out.new Ku11.out) (by omega) (by omega)).mono ?_
      rintro e u12 ⟨rfl, mu12, ku12⟩
      have b0_0_u12 : u12.cell? ⟨w.heap.size, 0, none⟩ = some (.slice a0s n0s c0s) := ku12.cell b0_0_u11 (fun h => by have s0 := Kz1.out.size; have s1 := Ku2.out.size; have s2 := Ku3.out.size; have s3 := Ku4.out.size; have s4 := Kv5.out.size; have s5 := Ku6.out.size; have s6 := Ku7.out.size; have s7 := Ku8.out.size; have s8 := Ku9.out.size; have s9 := Ku10.out.size; have s10 := Ku11.out.size; skip; have bb := ((Og0_u10.out.new Ku11.out)).bounds h.1 h.2; (try simp only at bb); omega)
      have b0_1_u12 : u12.cell? ⟨w.heap.size, 1, none⟩ = some (.slice a0f n0f c0f) := ku12.cell b0_1_u11 (fun h => by have s0 := Kz1.out.size; have s1 := Ku2.out.size; have s2 := Ku3.out.size; have s3 := Ku4.out.size; have s4 := Kv5.out.size; have s5 := Ku6.out.size; have s6 := Ku7.out.size; have s7 := Ku8.out.size; have s8 := Ku9.out.size; have s9 := Ku10.out.size; have s10 := Ku11.out.size; skip; have bb := ((Og0_u10.out.new Ku11.out)).bounds h.1 h.2; (try simp only at bb); omega)
      have v5c_0_u12 : u12.cell? ⟨u4.heap.size, 0, none⟩ = some (.slice x1sa n0s x1sc) := ku12.cell v5c_0_u11 (fun h => by have s0 := Kz1.out.size; have s1 := Ku2.out.size; have s2 := Ku3.out.size; have s3 := Ku4.out.size; have s4 := Kv5.out.size; have s5 := Ku6.out.size; have s6 := Ku7.out.size; have s7 := Ku8.out.size; have s8 := Ku9.out.size; have s9 := Ku10.out.size; have s10 := Ku11.out.size; skip; have bb := ((Og0_u10.out.new Ku11.out)).bounds h.1 h.2; (try simp only at bb); omega)
      have v5c_1_u12 : u12.cell? ⟨u4.heap.size, 1, none⟩ = some (.slice x1fa n0f x1fc) := ku12.cell v5c_1_u11 (fun h => by have s0 := Kz1.out.size; have s1 := Ku2.out.size; have s2 := Ku3.out.size; have s3 := Ku4.out.size; have s4 := Kv5.out.size; have s5 := Ku6.out.size; have s6 := Ku7.out.size; have s7 := Ku8.out.size; have s8 := Ku9.out.size; have s9 := Ku10.out.size; have s10 := Ku11.out.size; skip; have bb := ((Og0_u10.out.new Ku11.out)).bounds h.1 h.2; (try simp only at bb); omega)
      have Ku12 := Lib.hid ku12; clear ku12
      have Op0_u10_u12 := Lib.hid ((Op0_u10.out.new Ku11.out).chg Ku12.out (fun b h1 h2 h => by have s0 := Kz1.out.size; have s1 := Ku2.out.size; have s2 := Ku3.out.size; have s3 := Ku4.out.size; have s4 := Kv5.out.size; have s5 := Ku6.out.size; have s6 := Ku7.out.size; have s7 := Ku8.out.size; have s8 := Ku9.out.size; have s9 := Ku10.out.size; have s10 := Ku11.out.size; skip; have bb := ((Og0_u10.out.new Ku11.out)).bounds h.1 h.2; omega))
      have Mu12 := Lib.hid mu12; clear mu12
      clear b0_0_u11 b0_1_u11 v5c_0_u11 v5c_1_u11
      have eu12 : ¬ 1 + (g0n : Int) < 0 := by omega
      go_wp2_with fail
      refine (heldIntS_new _ _ _ _ _ Mu12.out.ints (by omega) (by omega)).mono ?_
      rintro e u13 ⟨rfl, n_u13⟩
      have b0_0_u13 : u13.cell? ⟨w.heap.size, 0, none⟩ = some (.slice a0s n0s c0s) := n_u13.cell b0_0_u12
      have b0_1_u13 : u13.cell? ⟨w.heap.size, 1, none⟩ = some (.slice a0f n0f c0f) := n_u13.cell b0_1_u12
      have v5c_0_u13 : u13.cell? ⟨u4.heap.size, 0, none⟩ = some (.slice x1sa n0s x1sc) := n_u13.cell v5c_0_u12
      have v5c_1_u13 : u13.cell? ⟨u4.heap.size, 1, none⟩ = some (.slice x1fa n0f x1fc) := n_u13.cell v5c_1_u12
      have Ku13 := Lib.hid n_u13; clear n_u13
      clear b0_0_u12 b0_1_u12 v5c_0_u12 v5c_1_u12
      go_wp2_with fail
      refine (toFlight_any _ _ _ _ _ _ _ l0s l0f (HA0s.out.new ((Chg.new ((Chg.new ((((((((Kz1.out.trans Ku2.out).trans Ku3.out).trans Ku4.out).trans Kv5.out).trans Ku6.out).trans Ku7.out).trans Ku8.out).trans Ku9.out) Ku10.out (fun i hi => by have s0 := Kz1.out.size; have s1 := Ku2.out.size; have s2 := Ku3.out.size; have s3 := Ku4.out.size; have s4 := Kv5.out.size; have s5 := Ku6.out.size; have s6 := Ku7.out.size; have s7 := Ku8.out.size; have s8 := Ku9.out.size; skip; skip; omega)).trans Ku11.out) Ku12.out (fun i hi => by have s0 := Kz1.out.size; have s1 := Ku2.out.size; have s2 := Ku3.out.size; have s3 := Ku4.out.size; have s4 := Kv5.out.size; have s5 := Ku6.out.size; have s6 := Ku7.out.size; have s7 := Ku8.out.size; have s8 := Ku9.out.size; have s9 := Ku10.out.size; have s10 := Ku11.out.size; skip; have bb := ((Og0_u10.out.new Ku11.out)).bounds hi.1 hi.2; omega)).trans Ku13.out)) (HA0f.out.new ((Chg.new ((Chg.new ((((((((Kz1.out.trans Ku2.out).trans Ku3.out).trans Ku4.out).trans Kv5.out).trans Ku6.out).trans Ku7.out).trans Ku8.out).trans Ku9.out) Ku10.out (fun i hi => by have s0 := Kz1.out.size; have s1 := Ku2.out.size; have s2 := Ku3.out.size; have s3 := Ku4.out.size; have s4 := Kv5.out.size; have s5 := Ku6.out.size; have s6 := Ku7.out.size; have s7 := Ku8.out.size; have s8 := Ku9.out.size; skip; skip; omega)).trans Ku11.out) Ku12.out (fun i hi => by have s0 := Kz1.out.size; have s1 := Ku2.out.size; have s2 := Ku3.out.size; have s3 := Ku4.out.size; have s4 := Kv5.out.size; have s5 := Ku6.out.size; have s6 := Ku7.out.size; have s7 := Ku8.out.size; have s8 := Ku9.out.size; have s9 := Ku10.out.size; have s10 := Ku11.out.size; skip; have bb := ((Og0_u10.out.new Ku11.out)).bounds hi.1 hi.2; omega)).trans Ku13.out)) hn0s hn0f).mono ?_
      rintro e u14 ⟨x3sa, x3sc, x3fa, x3fc, rfl, oX3, n_u14⟩
      have b0_0_u14 : u14.cell? ⟨w.heap.size, 0, none⟩ = some (.slice a0s n0s c0s) := n_u14.cell b0_0_u13
      have b0_1_u14 : u14.cell? ⟨w.heap.size, 1, none⟩ = some (.slice a0f n0f c0f) := n_u14.cell b0_1_u13
      have v5c_0_u14 : u14.cell? ⟨u4.heap.size, 0, none⟩ = some (.slice x1sa n0s x1sc) := n_u14.cell v5c_0_u13
      have v5c_1_u14 : u14.cell? ⟨u4.heap.size, 1, none⟩ = some (.slice x1fa n0f x1fc) := n_u14.cell v5c_1_u13
      have Ku14 := Lib.hid n_u14; clear n_u14
      clear b0_0_u13 b0_1_u13 v5c_0_u13 v5c_1_u13
      have OX3s := Lib.hid oX3.s
      have OX3f := Lib.hid oX3.f
      have OX3 := Lib.hid oX3; clear oX3
      go_wp2_with fail
      refine (iFillingsOf_any _ _ _ _ _ _ _ l0s l0f _ hn1 OX3s.out OX3f.out).mono ?_
      rintro e u15 ⟨f0a, f0n, f0c, rfl, of0, n_u15⟩
      have b0_0_u15 : u15.cell? ⟨w.heap.size, 0, none⟩ = some (.slice a0s n0s c0s) := n_u15.cell b0_0_u14
      have b0_1_u15 : u15.cell? ⟨w.heap.size, 1, none⟩ = some (.slice a0f n0f c0f) := n_u15.cell b0_1_u14
      have v5c_0_u15 : u15.cell? ⟨u4.heap.size, 0, none⟩ = some (.slice x1sa n0s x1sc) := n_u15.cell v5c_0_u14
      have v5c_1_u15 : u15.cell? ⟨u4.heap.size, 1, none⟩ = some (.slice x1fa n0f x1fc) := n_u15.cell v5c_1_u14
      have Ku15 := Lib.hid n_u15; clear n_u15
      clear b0_0_u14 b0_1_u14 v5c_0_u14 v5c_1_u14
      have Of0 := Lib.hid of0; clear of0
      go_wp2_with fail
      refine (eqIntS_same _ _ _ _ _ _ _ _ Of0.out.ints (Op0_u10_u12.out.new ((Ku13.out.trans Ku14.out).trans Ku15.out)).ints).mono ?_
      rintro e u16 ⟨rfl, n_u16⟩
      have b0_0_u16 : u16.cell? ⟨w.heap.size, 0, none⟩ = some (.slice a0s n0s c0s) := n_u16.cell b0_0_u15
      have b0_1_u16 : u16.cell? ⟨w.heap.size, 1, none⟩ = some (.slice a0f n0f c0f) := n_u16.cell b0_1_u15
      have v5c_0_u16 : u16.cell? ⟨u4.heap.size, 0, none⟩ = some (.slice x1sa n0s x1sc) := n_u16.cell v5c_0_u15
      have v5c_1_u16 : u16.cell? ⟨u4.heap.size, 1, none⟩ = some (.slice x1fa n0f x1fc) := n_u16.cell v5c_1_u15
      have Ku16 := Lib.hid n_u16; clear n_u16
      clear b0_0_u15 b0_1_u15 v5c_0_u15 v5c_1_u15
      go_wp2_with fail
      refine (heldIntS_new _ _ _ _ _ (Mu12.out.new (((Ku13.out.trans Ku14.out).trans Ku15.out).trans Ku16.out)).ints (by omega) (by omega)).mono ?_
      rintro e u17 ⟨rfl, n_u17⟩
      have b0_0_u17 : u17.cell? ⟨w.heap.size, 0, none⟩ = some (.slice a0s n0s c0s) := n_u17.cell b0_0_u16
      have b0_1_u17 : u17.cell? ⟨w.heap.size, 1, none⟩ = some (.slice a0f n0f c0f) := n_u17.cell b0_1_u16
      have v5c_0_u17 : u17.cell? ⟨u4.heap.size, 0, none⟩ = some (.slice x1sa n0s x1sc) := n_u17.cell v5c_0_u16
      have v5c_1_u17 : u17.cell? ⟨u4.heap.size, 1, none⟩ = some (.slice x1fa n0f x1fc) := n_u17.cell v5c_1_u16
      have Ku17 := Lib.hid n_u17; clear n_u17
      clear b0_0_u16 b0_1_u16 v5c_0_u16 v5c_1_u16
      go_wp2
      go_ret
      exact ⟨rfl, ((((((Chg.new ((Chg.new ((((((((Kz1.out.trans Ku2.out).trans Ku3.out).trans Ku4.out).trans Kv5.out).trans Ku6.out).trans Ku7.out).trans Ku8.out).trans Ku9.out) Ku10.out (fun i hi => by have s0 := Kz1.out.size; have s1 := Ku2.out.size; have s2 := Ku3.out.size; have s3 := Ku4.out.size; have s4 := Kv5.out.size; have s5 := Ku6.out.size; have s6 := Ku7.out.size; have s7 := Ku8.out.size; have s8 := Ku9.out.size; skip; skip; omega)).trans Ku11.out) Ku12.out (fun i hi => by have s0 := Kz1.out.size; have s1 := Ku2.out.size; have s2 := Ku3.out.size; have s3 := Ku4.out.size; have s4 := Kv5.out.size; have s5 := Ku6.out.size; have s6 := Ku7.out.size; have s7 := Ku8.out.size; have s8 := Ku9.out.size; have s9 := Ku10.out.size; have s10 := Ku11.out.size; skip; have bb := ((Og0_u10.out.new Ku11.out)).bounds hi.1 hi.2; omega)).trans Ku13.out).trans Ku14.out).trans Ku15.out).trans Ku16.out).trans Ku17.out)⟩
end Go.Proofs.YtmhcnomkkjgidaaDoor
