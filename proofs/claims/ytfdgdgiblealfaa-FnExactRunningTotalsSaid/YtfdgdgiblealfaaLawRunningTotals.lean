/- The law of RunningTotals: its walk. -/
import Derived.Test.YtfdgdgiblealfaaTot
import Derived.Test.YtfdgdgiblealfaaRowOpenBasin
import Derived.Deep.RegionHeld3
import Derived.Deep.DeepCutAuto
namespace Go.Proofs.Ytfdgdgiblealfaa
open Go.RowKit

set_option maxRecDepth 100000 in
set_option maxHeartbeats 20000000 in
theorem law_RunningTotals (w : World) (a0 : Option Addr) (n0 c0 : Nat) (l0 : List Int) (h0 : Ints w a0 n0 c0 l0) (hR0 : (totM l0).length ≤ 1048576) :
    Calls Try.prog 7 #[.slice a0 n0 c0] w fun e w' => e = .returned (.bool true) ∧ New w w' := by
  have HA0 := Lib.hid h0; clear h0
  have LR0 := Lib.hid hR0; clear hR0
  have qA0 := HA0.out.2.2.1
  go_enter Try.func7, Try.ntmps7
  by_cases hn0 : 1048576 < (n0 : Int)
  · go_wp2
    go_ret
    exact ⟨rfl, (by repeat (first | with_reducible exact New.refl _ | with_reducible assumption | refine New.drewN ?_ _ | refine New.drew ?_ | refine New.alloc ?_ _ | refine New.setCell ?_ (by first | omega | (simp; omega) | (simp; done)) _ | (refine New.trans ?_ (by assumption))))⟩
  · replace hn0 : n0 ≤ 1048576 := by omega
    go_wp2_with fail
    refine (toIntS_any _ _ _ _ _ HA0.out hn0).mono ?_
    rintro e u1 ⟨x0a, x0c, rfl, oX0, n_u1⟩
    have Ku1 := Lib.hid n_u1; clear n_u1
    have OX0 := Lib.hid oX0; clear oX0
    go_wp2_with fail
    refine (sRunningTotals_any _ _ _ _ _ OX0.out.ints).mono ?_
    rintro e u2 ⟨p0a, p0n, p0c, rfl, op0, n_u2⟩
    have Ku2 := Lib.hid n_u2; clear n_u2
    have Op0 := Lib.hid op0; clear op0
    go_wp2_with fail
    refine (toIntS_any _ _ _ _ _ (HA0.out.new (Ku1.out.trans Ku2.out)) hn0).mono ?_
    rintro e u3 ⟨x1a, x1c, rfl, oX1, n_u3⟩
    have Ku3 := Lib.hid n_u3; clear n_u3
    have OX1 := Lib.hid oX1; clear oX1
    go_wp2_with fail
    refine (iRunningTotals_any _ _ _ _ _ OX1.out.ints).mono ?_
    rintro e u4 ⟨g0a, g0n, g0c, rfl, og0, n_u4⟩
    have Ku4 := Lib.hid n_u4; clear n_u4
    have Og0 := Lib.hid og0; clear og0
    go_wp2_with fail
    refine (eqIntS_same _ _ _ _ _ _ _ _ Og0.out.ints (Op0.out.new (Ku3.out.trans Ku4.out)).ints).mono ?_
    rintro e u5 ⟨rfl, n_u5⟩
    have Ku5 := Lib.hid n_u5; clear n_u5
    go_wp2_with fail
    refine (toIntS_any _ _ _ _ _ (HA0.out.new ((((Ku1.out.trans Ku2.out).trans Ku3.out).trans Ku4.out).trans Ku5.out)) hn0).mono ?_
    rintro e u6 ⟨x2a, x2c, rfl, oX2, n_u6⟩
    have Ku6 := Lib.hid n_u6; clear n_u6
    have OX2 := Lib.hid oX2; clear oX2
    go_wp2_with fail
    refine (eqIntS_same _ _ _ _ _ _ _ _ (OX1.out.new ((Ku4.out.trans Ku5.out).trans Ku6.out)).ints OX2.out.ints).mono ?_
    rintro e u7 ⟨rfl, n_u7⟩
    have Ku7 := Lib.hid n_u7; clear n_u7
    go_wp2_with fail
    refine (markIntS_any _ u2.heap.size u3.heap.size _ _ _ _ _ (OX1.out.new (((Ku4.out.trans Ku5.out).trans Ku6.out).trans Ku7.out)) (by omega) (by omega)).mono ?_
    rintro e u8 ⟨rfl, mu8, ku8⟩
    have Ku8 := Lib.hid ku8; clear ku8
    have OX0_u8 := Lib.hid ((OX0.out.new (((((Ku2.out.trans Ku3.out).trans Ku4.out).trans Ku5.out).trans Ku6.out).trans Ku7.out)).chg Ku8.out (fun b h1 h2 h => by have s0 := Ku1.out.size; have s1 := Ku2.out.size; have s2 := Ku3.out.size; have s3 := Ku4.out.size; have s4 := Ku5.out.size; have s5 := Ku6.out.size; have s6 := Ku7.out.size; skip; have bb := ((OX1.out.new (((Ku4.out.trans Ku5.out).trans Ku6.out).trans Ku7.out))).bounds h.1 h.2; omega))
    have Op0_u8 := Lib.hid ((Op0.out.new ((((Ku3.out.trans Ku4.out).trans Ku5.out).trans Ku6.out).trans Ku7.out)).chg Ku8.out (fun b h1 h2 h => by have s0 := Ku1.out.size; have s1 := Ku2.out.size; have s2 := Ku3.out.size; have s3 := Ku4.out.size; have s4 := Ku5.out.size; have s5 := Ku6.out.size; have s6 := Ku7.out.size; skip; have bb := ((OX1.out.new (((Ku4.out.trans Ku5.out).trans Ku6.out).trans Ku7.out))).bounds h.1 h.2; omega))
    have Og0_u8 := Lib.hid ((Og0.out.new ((Ku5.out.trans Ku6.out).trans Ku7.out)).chg Ku8.out (fun b h1 h2 h => by have s0 := Ku1.out.size; have s1 := Ku2.out.size; have s2 := Ku3.out.size; have s3 := Ku4.out.size; have s4 := Ku5.out.size; have s5 := Ku6.out.size; have s6 := Ku7.out.size; skip; have bb := ((OX1.out.new (((Ku4.out.trans Ku5.out).trans Ku6.out).trans Ku7.out))).bounds h.1 h.2; omega))
    have OX2_u8 := Lib.hid ((OX2.out.new Ku7.out).chg Ku8.out (fun b h1 h2 h => by have s0 := Ku1.out.size; have s1 := Ku2.out.size; have s2 := Ku3.out.size; have s3 := Ku4.out.size; have s4 := Ku5.out.size; have s5 := Ku6.out.size; have s6 := Ku7.out.size; skip; have bb := ((OX1.out.new (((Ku4.out.trans Ku5.out).trans Ku6.out).trans Ku7.out))).bounds h.1 h.2; omega))
    clear mu8
    have eu8 : ¬ 1 + (n0 : Int) < 0 := by omega
    go_wp2_with fail
    refine (eqIntS_same _ _ _ _ _ _ _ _ Og0_u8.out.ints Op0_u8.out.ints).mono ?_
    rintro e u9 ⟨rfl, n_u9⟩
    have Ku9 := Lib.hid n_u9; clear n_u9
    go_wp2_with fail
    have yu10 : g0n ≤ 1048576 := by have q1 := Og0_u8.out.1; have q2 := LR0.out; omega
    refine (markIntS_any _ u3.heap.size u4.heap.size _ _ _ _ _ (Og0_u8.out.new Ku9.out) (by omega) (by omega)).mono ?_
    rintro e u10 ⟨rfl, mu10, ku10⟩
    have Ku10 := Lib.hid ku10; clear ku10
    have OX0_u8_u10 := Lib.hid ((OX0_u8.out.new Ku9.out).chg Ku10.out (fun b h1 h2 h => by have s0 := Ku1.out.size; have s1 := Ku2.out.size; have s2 := Ku3.out.size; have s3 := Ku4.out.size; have s4 := Ku5.out.size; have s5 := Ku6.out.size; have s6 := Ku7.out.size; have s7 := Ku8.out.size; have s8 := Ku9.out.size; skip; have bb := ((Og0_u8.out.new Ku9.out)).bounds h.1 h.2; omega))
    have Op0_u8_u10 := Lib.hid ((Op0_u8.out.new Ku9.out).chg Ku10.out (fun b h1 h2 h => by have s0 := Ku1.out.size; have s1 := Ku2.out.size; have s2 := Ku3.out.size; have s3 := Ku4.out.size; have s4 := Ku5.out.size; have s5 := Ku6.out.size; have s6 := Ku7.out.size; have s7 := Ku8.out.size; have s8 := Ku9.out.size; skip; have bb := ((Og0_u8.out.new Ku9.out)).bounds h.1 h.2; omega))
    have OX2_u8_u10 := Lib.hid ((OX2_u8.out.new Ku9.out).chg Ku10.out (fun b h1 h2 h => by have s0 := Ku1.out.size; have s1 := Ku2.out.size; have s2 := Ku3.out.size; have s3 := Ku4.out.size; have s4 := Ku5.out.size; have s5 := Ku6.out.size; have s6 := Ku7.out.size; have s7 := Ku8.out.size; have s8 := Ku9.out.size; skip; have bb := ((Og0_u8.out.new Ku9.out)).bounds h.1 h.2; omega))
    have Mu10 := Lib.hid mu10; clear mu10
    have eu10 : ¬ 1 + (g0n : Int) < 0 := by omega
    go_wp2_with fail
    refine (heldIntS_new _ _ _ _ _ Mu10.out.ints (by omega) (by omega)).mono ?_
    rintro e u11 ⟨rfl, n_u11⟩
    have Ku11 := Lib.hid n_u11; clear n_u11
    go_wp2_with fail
    refine (toIntS_any _ _ _ _ _ (HA0.out.new ((Chg.new ((Chg.new ((((((Ku1.out.trans Ku2.out).trans Ku3.out).trans Ku4.out).trans Ku5.out).trans Ku6.out).trans Ku7.out) Ku8.out (fun i hi => by have s0 := Ku1.out.size; have s1 := Ku2.out.size; have s2 := Ku3.out.size; have s3 := Ku4.out.size; have s4 := Ku5.out.size; have s5 := Ku6.out.size; have s6 := Ku7.out.size; skip; have bb := ((OX1.out.new (((Ku4.out.trans Ku5.out).trans Ku6.out).trans Ku7.out))).bounds hi.1 hi.2; omega)).trans Ku9.out) Ku10.out (fun i hi => by have s0 := Ku1.out.size; have s1 := Ku2.out.size; have s2 := Ku3.out.size; have s3 := Ku4.out.size; have s4 := Ku5.out.size; have s5 := Ku6.out.size; have s6 := Ku7.out.size; have s7 := Ku8.out.size; have s8 := Ku9.out.size; skip; have bb := ((Og0_u8.out.new Ku9.out)).bounds hi.1 hi.2; omega)).trans Ku11.out)) hn0).mono ?_
    rintro e u12 ⟨x3a, x3c, rfl, oX3, n_u12⟩
    have Ku12 := Lib.hid n_u12; clear n_u12
    have OX3 := Lib.hid oX3; clear oX3
    go_wp2_with fail
    refine (iRunningTotals_any _ _ _ _ _ OX3.out.ints).mono ?_
    rintro e u13 ⟨f0a, f0n, f0c, rfl, of0, n_u13⟩
    have Ku13 := Lib.hid n_u13; clear n_u13
    have Of0 := Lib.hid of0; clear of0
    go_wp2_with fail
    refine (eqIntS_same _ _ _ _ _ _ _ _ Of0.out.ints (Op0_u8_u10.out.new ((Ku11.out.trans Ku12.out).trans Ku13.out)).ints).mono ?_
    rintro e u14 ⟨rfl, n_u14⟩
    have Ku14 := Lib.hid n_u14; clear n_u14
    go_wp2_with fail
    refine (heldIntS_new _ _ _ _ _ (Mu10.out.new (((Ku11.out.trans Ku12.out).trans Ku13.out).trans Ku14.out)).ints (by omega) (by omega)).mono ?_
    rintro e u15 ⟨rfl, n_u15⟩
    have Ku15 := Lib.hid n_u15; clear n_u15
    go_wp2
    go_ret
    exact ⟨rfl, ((((((Chg.new ((Chg.new ((((((Ku1.out.trans Ku2.out).trans Ku3.out).trans Ku4.out).trans Ku5.out).trans Ku6.out).trans Ku7.out) Ku8.out (fun i hi => by have s0 := Ku1.out.size; have s1 := Ku2.out.size; have s2 := Ku3.out.size; have s3 := Ku4.out.size; have s4 := Ku5.out.size; have s5 := Ku6.out.size; have s6 := Ku7.out.size; skip; have bb := ((OX1.out.new (((Ku4.out.trans Ku5.out).trans Ku6.out).trans Ku7.out))).bounds hi.1 hi.2; omega)).trans Ku9.out) Ku10.out (fun i hi => by have s0 := Ku1.out.size; have s1 := Ku2.out.size; have s2 := Ku3.out.size; have s3 := Ku4.out.size; have s4 := Ku5.out.size; have s5 := Ku6.out.size; have s6 := Ku7.out.size; have s7 := Ku8.out.size; have s8 := Ku9.out.size; skip; have bb := ((Og0_u8.out.new Ku9.out)).bounds hi.1 hi.2; omega)).trans Ku11.out).trans Ku12.out).trans Ku13.out).trans Ku14.out).trans Ku15.out)⟩
end Go.Proofs.Ytfdgdgiblealfaa
