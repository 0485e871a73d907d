/- The law of FloodOrder: its walk. -/
import Derived.Test.YtklfelbolblgfaaFoc
import Derived.Test.YtklfelbolblgfaaAll
import Derived.Test.YtklfelbolblgfaaRowOpenTank
import Derived.Deep.RegionHeld3
import Derived.Deep.DeepCutAuto
namespace Go.Proofs.Ytklfelbolblgfaa
open Go.RowKit

set_option maxRecDepth 100000 in
set_option maxHeartbeats 20000000 in
theorem law_FloodOrder (w : World) (a0 : Option Addr) (n0 c0 : Nat) (l0 : List (Int × Int × Int)) (h0 : Tanks w a0 n0 c0 l0) (hR0 : (floM l0).length ≤ 1048576) :
    Calls Try.prog 10 #[.slice a0 n0 c0] w fun e w' => e = .returned (.bool true) ∧ New w w' := by
  have HA0 := Lib.hid h0; clear h0
  have LR0 := Lib.hid hR0; clear hR0
  have qA0 := HA0.out.2.2.1
  go_enter Try.func10, Try.ntmps10
  go_wp2_with fail
  refine (szTankS_any _ _ _ _ _ qA0 (by omega) (by omega)).mono ?_
  rintro e z1 ⟨rz1, rfl, g1z1, g2z1, g3z1, n_z1⟩
  have Gz1 := Lib.hid g3z1; clear g3z1
  have Kz1 := Lib.hid (show New w z1 from New.trans (by repeat (first | with_reducible exact New.refl _ | with_reducible assumption | refine New.drewN ?_ _ | refine New.drew ?_ | refine New.alloc ?_ _ | refine New.setCell ?_ (by first | omega | (simp; omega) | (simp; done)) _ | (refine New.trans ?_ (by assumption)))) n_z1); clear n_z1
  by_cases hrz1 : rz1 < 0
  · go_wp2
    go_ret
    exact ⟨rfl, Kz1.out⟩
  · have hn0 : n0 ≤ 1048576 := by have := (Gz1.out (by omega)).1; omega
    go_wp2_with fail
    refine (toTankS_any _ _ _ _ _ (HA0.out.new Kz1.out) hn0).mono ?_
    rintro e u2 ⟨x0a, x0c, rfl, oX0, n_u2⟩
    have Ku2 := Lib.hid n_u2; clear n_u2
    have OX0 := Lib.hid oX0; clear oX0
    go_wp2_with fail
    refine (sFloodOrder_any _ _ _ _ _ OX0.out.reads).mono ?_
    rintro e u3 ⟨p0a, p0n, p0c, rfl, op0, n_u3⟩
    have Ku3 := Lib.hid n_u3; clear n_u3
    have Op0 := Lib.hid op0; clear op0
    go_wp2_with fail
    refine (toTankS_any _ _ _ _ _ (HA0.out.new ((Kz1.out.trans Ku2.out).trans Ku3.out)) hn0).mono ?_
    rintro e u4 ⟨x1a, x1c, rfl, oX1, n_u4⟩
    have Ku4 := Lib.hid n_u4; clear n_u4
    have OX1 := Lib.hid oX1; clear oX1
    go_wp2_with fail
    refine (iFloodOrder_any _ _ _ _ _ OX1.out.reads).mono ?_
    rintro e u5 ⟨g0a, g0n, g0c, rfl, og0, n_u5⟩
    have Ku5 := Lib.hid n_u5; clear n_u5
    have Og0 := Lib.hid og0; clear og0
    go_wp2_with fail
    refine (eqIntS_same _ _ _ _ _ _ _ _ Og0.out.ints (Op0.out.new (Ku4.out.trans Ku5.out)).ints).mono ?_
    rintro e u6 ⟨rfl, n_u6⟩
    have Ku6 := Lib.hid n_u6; clear n_u6
    go_wp2_with fail
    refine (toTankS_any _ _ _ _ _ (HA0.out.new (((((Kz1.out.trans Ku2.out).trans Ku3.out).trans Ku4.out).trans Ku5.out).trans Ku6.out)) hn0).mono ?_
    rintro e u7 ⟨x2a, x2c, rfl, oX2, n_u7⟩
    have Ku7 := Lib.hid n_u7; clear n_u7
    have OX2 := Lib.hid oX2; clear oX2
    go_wp2_with fail
    refine (eqTankS_same _ _ _ _ _ _ _ _ (OX1.out.new ((Ku5.out.trans Ku6.out).trans Ku7.out)).reads OX2.out.reads).mono ?_
    rintro e u8 ⟨rfl, n_u8⟩
    have Ku8 := Lib.hid n_u8; clear n_u8
    go_wp2_with fail
    refine (markTankS_any _ u3.heap.size u4.heap.size _ _ _ _ _ (OX1.out.new (((Ku5.out.trans Ku6.out).trans Ku7.out).trans Ku8.out)) (by omega) (by omega)).mono ?_
    rintro e u9 ⟨rfl, mu9, ku9⟩
    have Ku9 := Lib.hid ku9; clear ku9
    have OX0_u9 := Lib.hid ((OX0.out.new (((((Ku3.out.trans Ku4.out).trans Ku5.out).trans Ku6.out).trans Ku7.out).trans Ku8.out)).chg Ku9.out (fun b h1 h2 h => by have s0 := Kz1.out.size; have s1 := Ku2.out.size; have s2 := Ku3.out.size; have s3 := Ku4.out.size; have s4 := Ku5.out.size; have s5 := Ku6.out.size; have s6 := Ku7.out.size; have s7 := Ku8.out.size; skip; have bb := ((OX1.out.new (((Ku5.out.trans Ku6.out).trans Ku7.out).trans Ku8.out))).bounds h.1 h.2; omega))
    have Op0_u9 := Lib.hid ((Op0.out.new ((((Ku4.out.trans Ku5.out).trans Ku6.out).trans Ku7.out).trans Ku8.out)).chg Ku9.out (fun b h1 h2 h => by have s0 := Kz1.out.size; have s1 := Ku2.out.size; have s2 := Ku3.out.size; have s3 := Ku4.out.size; have s4 := Ku5.out.size; have s5 := Ku6.out.size; have s6 := Ku7.out.size; have s7 := Ku8.out.size; skip; have bb := ((OX1.out.new (((Ku5.out.trans Ku6.out).trans Ku7.out).trans Ku8.out))).bounds h.1 h.2; omega))
    have Og0_u9 := Lib.hid ((Og0.out.new ((Ku6.out.trans Ku7.out).trans Ku8.out)).chg Ku9.out (fun b h1 h2 h => by have s0 := Kz1.out.size; have s1 := Ku2.out.size; have s2 := Ku3.out.size; have s3 := Ku4.out.size; have s4 := Ku5.out.size; have s5 := Ku6.out.size; have s6 := Ku7.out.size; have s7 := Ku8.out.size; skip; have bb := ((OX1.out.new (((Ku5.out.trans Ku6.out).trans Ku7.out).trans Ku8.out))).bounds h.1 h.2; omega))
    have OX2_u9 := Lib.hid ((OX2.out.new Ku8.out).chg Ku9.out (fun b h1 h2 h => by have s0 := Kz1.out.size; have s1 := Ku2.out.size; have s2 := Ku3.out.size; have s3 := Ku4.out.size; have s4 := Ku5.out.size; have s5 := Ku6.out.size; have s6 := Ku7.out.size; have s7 := Ku8.out.size; skip; have bb := ((OX1.out.new (((Ku5.out.trans Ku6.out).trans Ku7.out).trans Ku8.out))).bounds h.1 h.2; omega))
    clear mu9
    have eu9 : ¬ 1 + 3 * (n0 : Int) < 0 := by omega
    go_wp2_with fail
    refine (eqIntS_same _ _ _ _ _ _ _ _ Og0_u9.out.ints Op0_u9.out.ints).mono ?_
    rintro e u10 ⟨rfl, n_u10⟩
    have Ku10 := Lib.hid n_u10; clear n_u10
    go_wp2_with fail
    have yu11 : g0n ≤ 1048576 := by have q1 := Og0_u9.out.1; have q2 := LR0.out; omega
    refine (markIntS_any _ u4.heap.size u5.heap.size _ _ _ _ _ (Og0_u9.out.new Ku10.out) (by omega) (by omega)).mono ?_
    rintro e u11 ⟨rfl, mu11, ku11⟩
    have Ku11 := Lib.hid ku11; clear ku11
    have OX0_u9_u11 := Lib.hid ((OX0_u9.out.new Ku10.out).chg Ku11.out (fun b h1 h2 h => by have s0 := Kz1.out.size; have s1 := Ku2.out.size; have s2 := Ku3.out.size; have s3 := Ku4.out.size; have s4 := Ku5.out.size; have s5 := Ku6.out.size; have s6 := Ku7.out.size; have s7 := Ku8.out.size; have s8 := Ku9.out.size; have s9 := Ku10.out.size; skip; have bb := ((Og0_u9.out.new Ku10.out)).bounds h.1 h.2; omega))
    have Op0_u9_u11 := Lib.hid ((Op0_u9.out.new Ku10.out).chg Ku11.out (fun b h1 h2 h => by have s0 := Kz1.out.size; have s1 := Ku2.out.size; have s2 := Ku3.out.size; have s3 := Ku4.out.size; have s4 := Ku5.out.size; have s5 := Ku6.out.size; have s6 := Ku7.out.size; have s7 := Ku8.out.size; have s8 := Ku9.out.size; have s9 := Ku10.out.size; skip; have bb := ((Og0_u9.out.new Ku10.out)).bounds h.1 h.2; omega))
    have OX2_u9_u11 := Lib.hid ((OX2_u9.out.new Ku10.out).chg Ku11.out (fun b h1 h2 h => by have s0 := Kz1.out.size; have s1 := Ku2.out.size; have s2 := Ku3.out.size; have s3 := Ku4.out.size; have s4 := Ku5.out.size; have s5 := Ku6.out.size; have s6 := Ku7.out.size; have s7 := Ku8.out.size; have s8 := Ku9.out.size; have s9 := Ku10.out.size; skip; have bb := ((Og0_u9.out.new Ku10.out)).bounds h.1 h.2; omega))
    have Mu11 := Lib.hid mu11; clear mu11
    have eu11 : ¬ 1 + (g0n : Int) < 0 := by omega
    go_wp2_with fail
    refine (heldIntS_new _ _ _ _ _ Mu11.out.ints (by omega) (by omega)).mono ?_
    rintro e u12 ⟨rfl, n_u12⟩
    have Ku12 := Lib.hid n_u12; clear n_u12
    go_wp2_with fail
    refine (toTankS_any _ _ _ _ _ (HA0.out.new ((Chg.new ((Chg.new (((((((Kz1.out.trans Ku2.out).trans Ku3.out).trans Ku4.out).trans Ku5.out).trans Ku6.out).trans Ku7.out).trans Ku8.out) Ku9.out (fun i hi => by have s0 := Kz1.out.size; have s1 := Ku2.out.size; have s2 := Ku3.out.size; have s3 := Ku4.out.size; have s4 := Ku5.out.size; have s5 := Ku6.out.size; have s6 := Ku7.out.size; have s7 := Ku8.out.size; skip; have bb := ((OX1.out.new (((Ku5.out.trans Ku6.out).trans Ku7.out).trans Ku8.out))).bounds hi.1 hi.2; omega)).trans Ku10.out) Ku11.out (fun i hi => by have s0 := Kz1.out.size; have s1 := Ku2.out.size; have s2 := Ku3.out.size; have s3 := Ku4.out.size; have s4 := Ku5.out.size; have s5 := Ku6.out.size; have s6 := Ku7.out.size; have s7 := Ku8.out.size; have s8 := Ku9.out.size; have s9 := Ku10.out.size; skip; have bb := ((Og0_u9.out.new Ku10.out)).bounds hi.1 hi.2; omega)).trans Ku12.out)) hn0).mono ?_
    rintro e u13 ⟨x3a, x3c, rfl, oX3, n_u13⟩
    have Ku13 := Lib.hid n_u13; clear n_u13
    have OX3 := Lib.hid oX3; clear oX3
    go_wp2_with fail
    refine (iFloodOrder_any _ _ _ _ _ OX3.out.reads).mono ?_
    rintro e u14 ⟨f0a, f0n, f0c, rfl, of0, n_u14⟩
    have Ku14 := Lib.hid n_u14; clear n_u14
    have Of0 := Lib.hid of0; clear of0
    go_wp2_with fail
    refine (eqIntS_same _ _ _ _ _ _ _ _ Of0.out.ints (Op0_u9_u11.out.new ((Ku12.out.trans Ku13.out).trans Ku14.out)).ints).mono ?_
    rintro e u15 ⟨rfl, n_u15⟩
    have Ku15 := Lib.hid n_u15; clear n_u15
    go_wp2_with fail
    refine (heldIntS_new _ _ _ _ _ (Mu11.out.new (((Ku12.out.trans Ku13.out).trans Ku14.out).trans Ku15.out)).ints (by omega) (by omega)).mono ?_
    rintro e u16 ⟨rfl, n_u16⟩
    have Ku16 := Lib.hid n_u16; clear n_u16
    go_wp2
    go_ret
    exact ⟨rfl, ((((((Chg.new ((Chg.new (((((((Kz1.out.trans Ku2.out).trans Ku3.out).trans Ku4.out).trans Ku5.out).trans Ku6.out).trans Ku7.out).trans Ku8.out) Ku9.out (fun i hi => by have s0 := Kz1.out.size; have s1 := Ku2.out.size; have s2 := Ku3.out.size; have s3 := Ku4.out.size; have s4 := Ku5.out.size; have s5 := Ku6.out.size; have s6 := Ku7.out.size; have s7 := Ku8.out.size; skip; have bb := ((OX1.out.new (((Ku5.out.trans Ku6.out).trans Ku7.out).trans Ku8.out))).bounds hi.1 hi.2; omega)).trans Ku10.out) Ku11.out (fun i hi => by have s0 := Kz1.out.size; have s1 := Ku2.out.size; have s2 := Ku3.out.size; have s3 := Ku4.out.size; have s4 := Ku5.out.size; have s5 := Ku6.out.size; have s6 := Ku7.out.size; have s7 := Ku8.out.size; have s8 := Ku9.out.size; have s9 := Ku10.out.size; skip; have bb := ((Og0_u9.out.new Ku10.out)).bounds hi.1 hi.2; omega)).trans Ku12.out).trans Ku13.out).trans Ku14.out).trans Ku15.out).trans Ku16.out)⟩
end Go.Proofs.Ytklfelbolblgfaa
