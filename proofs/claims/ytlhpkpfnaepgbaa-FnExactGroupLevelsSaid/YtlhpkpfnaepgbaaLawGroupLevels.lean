/- The law of GroupLevels: its walk. -/
import Derived.Test.YtlhpkpfnaepgbaaGlv
import Derived.Test.YtlhpkpfnaepgbaaAll
import Derived.Test.YtlhpkpfnaepgbaaArgSS
import Derived.Test.YtlhpkpfnaepgbaaRowRatio
import Derived.Test.YtlhpkpfnaepgbaaRowOpenTank
import Derived.Deep.RegionHeld3
import Derived.Deep.DeepCutAuto
namespace Go.Proofs.Ytlhpkpfnaepgbaa
open Go.RowKit

set_option maxRecDepth 100000 in
set_option maxHeartbeats 20000000 in
theorem law_GroupLevels (w : World) (a0 : Option Addr) (n0 c0 : Nat) (l0 : List (Int × Int × Int)) (a1 : Option Addr) (n1 c1 : Nat) (l1 : List (List Int)) (h0 : Tanks w a0 n0 c0 l0) (h1 : IntSS w a1 n1 c1 l1) (hR0 : (glM l0 l1).length ≤ 1048576) :
    Calls Try.prog 4 #[.slice a0 n0 c0, .slice a1 n1 c1] w fun e w' => e = .returned (.bool true) ∧ New w w' := by
  have HA0 := Lib.hid h0; clear h0
  have HA1 := Lib.hid h1; clear h1
  have LR0 := Lib.hid hR0; clear hR0
  have qA0 := HA0.out.2.2.1
  have qA1 := HA1.out.2.2.1
  go_enter Try.func4, Try.ntmps4
  go_wp2_with fail
  refine (szTankS_any _ _ _ _ _ qA0 (by omega) (by omega)).mono ?_
  rintro e z1 ⟨rz1, rfl, g1z1, g2z1, g3z1, n_z1⟩
  have Gz1 := Lib.hid g3z1; clear g3z1
  have Kz1 := Lib.hid (show New w z1 from New.trans (by repeat (first | with_reducible exact New.refl _ | with_reducible assumption | refine New.drewN ?_ _ | refine New.drew ?_ | refine New.alloc ?_ _ | refine New.setCell ?_ (by first | omega | (simp; omega) | (simp; done)) _ | (refine New.trans ?_ (by assumption)))) n_z1); clear n_z1
  by_cases hrz1 : rz1 < 0
  · go_wp2
    go_ret
    exact ⟨rfl, Kz1.out⟩
  · have hn0 : n0 ≤ 1048576 := by have := (Gz1.out (by omega)).1; omega
    go_wp2_with fail
    refine (szIntSS_any _ _ _ _ _ _ (HA1.out.new Kz1.out) (by omega) (by omega)).mono ?_
    rintro e z2 ⟨rz2, rfl, g1z2, g2z2, g3z2, n_z2⟩
    have Gz2 := Lib.hid g3z2; clear g3z2
    have Kz2 := Lib.hid n_z2; clear n_z2
    by_cases hrz2 : rz2 < 0
    · go_wp2
      go_ret
      exact ⟨rfl, (Kz1.out.trans Kz2.out)⟩
    · have hn1 : n1 ≤ 1048576 := by have := (Gz2.out (by omega)).1; omega
      have hm1 : totalSS l1 ≤ 1048576 := by have := (Gz2.out (by omega)).2.1; omega
      go_wp2_with fail
      refine (toTankS_any _ _ _ _ _ (HA0.out.new (Kz1.out.trans Kz2.out)) hn0).mono ?_
      rintro e u3 ⟨x0a, x0c, rfl, oX0, n_u3⟩
      have Ku3 := Lib.hid n_u3; clear n_u3
      have OX0 := Lib.hid oX0; clear oX0
      go_wp2_with fail
      refine (toIntSS_any _ _ _ _ _ (HA1.out.new ((Kz1.out.trans Kz2.out).trans Ku3.out)) ⟨hn1, hm1⟩).mono ?_
      rintro e u4 ⟨x1a, x1c, rfl, oX1, n_u4⟩
      have Ku4 := Lib.hid n_u4; clear n_u4
      have OX1 := Lib.hid oX1; clear oX1
      go_wp2_with fail
      refine (sGroupLevels_any _ _ _ _ _ _ _ _ _ (OX0.out.new Ku4.out).reads OX1.out.reads).mono ?_
      rintro e u5 ⟨p0a, p0n, p0c, rfl, op0, n_u5⟩
      have Ku5 := Lib.hid n_u5; clear n_u5
      have Op0 := Lib.hid op0; clear op0
      go_wp2_with fail
      refine (toTankS_any _ _ _ _ _ (HA0.out.new ((((Kz1.out.trans Kz2.out).trans Ku3.out).trans Ku4.out).trans Ku5.out)) hn0).mono ?_
      rintro e u6 ⟨x2a, x2c, rfl, oX2, n_u6⟩
      have Ku6 := Lib.hid n_u6; clear n_u6
      have OX2 := Lib.hid oX2; clear oX2
      go_wp2_with fail
      refine (toIntSS_any _ _ _ _ _ (HA1.out.new (((((Kz1.out.trans Kz2.out).trans Ku3.out).trans Ku4.out).trans Ku5.out).trans Ku6.out)) ⟨hn1, hm1⟩).mono ?_
      rintro e u7 ⟨x3a, x3c, rfl, oX3, n_u7⟩
      have Ku7 := Lib.hid n_u7; clear n_u7
      have OX3 := Lib.hid oX3; clear oX3
      go_wp2_with fail
      refine (iGroupLevels_any _ _ _ _ _ _ _ _ _ (OX2.out.new Ku7.out).reads OX3.out.reads).mono ?_
      rintro e u8 ⟨g0a, g0n, g0c, rfl, og0, n_u8⟩
      have Ku8 := Lib.hid n_u8; clear n_u8
      have Og0 := Lib.hid og0; clear og0
      go_wp2_with fail
      refine (eqRatioS_same _ _ _ _ _ _ _ _ Og0.out.reads (Op0.out.new ((Ku6.out.trans Ku7.out).trans Ku8.out)).reads).mono ?_
      rintro e u9 ⟨rfl, n_u9⟩
      have Ku9 := Lib.hid n_u9; clear n_u9
      go_wp2_with fail
      refine (toTankS_any _ _ _ _ _ (HA0.out.new ((((((((Kz1.out.trans Kz2.out).trans Ku3.out).trans Ku4.out).trans Ku5.out).trans Ku6.out).trans Ku7.out).trans Ku8.out).trans Ku9.out)) hn0).mono ?_
      rintro e u10 ⟨x4a, x4c, rfl, oX4, n_u10⟩
      have Ku10 := Lib.hid n_u10; clear n_u10
      have OX4 := Lib.hid oX4; clear oX4
      go_wp2_with fail
      refine (eqTankS_same _ _ _ _ _ _ _ _ (OX2.out.new (((Ku7.out.trans Ku8.out).trans Ku9.out).trans Ku10.out)).reads OX4.out.reads).mono ?_
      rintro e u11 ⟨rfl, n_u11⟩
      have Ku11 := Lib.hid n_u11; clear n_u11
      go_wp2_with fail
      refine (toIntSS_any _ _ _ _ _ (HA1.out.new ((((((((((Kz1.out.trans Kz2.out).trans Ku3.out).trans Ku4.out).trans Ku5.out).trans Ku6.out).trans Ku7.out).trans Ku8.out).trans Ku9.out).trans Ku10.out).trans Ku11.out)) ⟨hn1, hm1⟩).mono ?_
      rintro e u12 ⟨x5a, x5c, rfl, oX5, n_u12⟩
      have Ku12 := Lib.hid n_u12; clear n_u12
      have OX5 := Lib.hid oX5; clear oX5
      go_wp2_with fail
      refine (eqIntSS_same _ _ _ _ _ _ _ _ (OX3.out.new ((((Ku8.out.trans Ku9.out).trans Ku10.out).trans Ku11.out).trans Ku12.out)).reads OX5.out.reads).mono ?_
      rintro e u13 ⟨rfl, n_u13⟩
      have Ku13 := Lib.hid n_u13; clear n_u13
      go_wp2_with fail
      refine (markTankS_any _ u5.heap.size u6.heap.size _ _ _ _ _ (OX2.out.new ((((((Ku7.out.trans Ku8.out).trans Ku9.out).trans Ku10.out).trans Ku11.out).trans Ku12.out).trans Ku13.out)) (by omega) (by omega)).mono ?_
      rintro e u14 ⟨rfl, mu14, ku14⟩
      have Ku14 := Lib.hid ku14; clear ku14
      have OX0_u14 := Lib.hid ((OX0.out.new (((((((((Ku4.out.trans Ku5.out).trans Ku6.out).trans Ku7.out).trans Ku8.out).trans Ku9.out).trans Ku10.out).trans Ku11.out).trans Ku12.out).trans Ku13.out)).chg Ku14.out (fun b h1 h2 h => by have s0 := Kz1.out.size; have s1 := Kz2.out.size; have s2 := Ku3.out.size; have s3 := Ku4.out.size; have s4 := Ku5.out.size; have s5 := Ku6.out.size; have s6 := Ku7.out.size; have s7 := Ku8.out.size; have s8 := Ku9.out.size; have s9 := Ku10.out.size; have s10 := Ku11.out.size; have s11 := Ku12.out.size; have s12 := Ku13.out.size; skip; have bb := ((OX2.out.new ((((((Ku7.out.trans Ku8.out).trans Ku9.out).trans Ku10.out).trans Ku11.out).trans Ku12.out).trans Ku13.out))).bounds h.1 h.2; omega))
      have OX1_u14 := Lib.hid ((OX1.out.new ((((((((Ku5.out.trans Ku6.out).trans Ku7.out).trans Ku8.out).trans Ku9.out).trans Ku10.out).trans Ku11.out).trans Ku12.out).trans Ku13.out)).chg Ku14.out (fun b h1 h2 h => by have s0 := Kz1.out.size; have s1 := Kz2.out.size; have s2 := Ku3.out.size; have s3 := Ku4.out.size; have s4 := Ku5.out.size; have s5 := Ku6.out.size; have s6 := Ku7.out.size; have s7 := Ku8.out.size; have s8 := Ku9.out.size; have s9 := Ku10.out.size; have s10 := Ku11.out.size; have s11 := Ku12.out.size; have s12 := Ku13.out.size; skip; have bb := ((OX2.out.new ((((((Ku7.out.trans Ku8.out).trans Ku9.out).trans Ku10.out).trans Ku11.out).trans Ku12.out).trans Ku13.out))).bounds h.1 h.2; omega))
      have Op0_u14 := Lib.hid ((Op0.out.new (((((((Ku6.out.trans Ku7.out).trans Ku8.out).trans Ku9.out).trans Ku10.out).trans Ku11.out).trans Ku12.out).trans Ku13.out)).chg Ku14.out (fun b h1 h2 h => by have s0 := Kz1.out.size; have s1 := Kz2.out.size; have s2 := Ku3.out.size; have s3 := Ku4.out.size; have s4 := Ku5.out.size; have s5 := Ku6.out.size; have s6 := Ku7.out.size; have s7 := Ku8.out.size; have s8 := Ku9.out.size; have s9 := Ku10.out.size; have s10 := Ku11.out.size; have s11 := Ku12.out.size; have s12 := Ku13.out.size; skip; have bb := ((OX2.out.new ((((((Ku7.out.trans Ku8.out).trans Ku9.out).trans Ku10.out).trans Ku11.out).trans Ku12.out).trans Ku13.out))).bounds h.1 h.2; omega))
      have OX3_u14 := Lib.hid ((OX3.out.new (((((Ku8.out.trans Ku9.out).trans Ku10.out).trans Ku11.out).trans Ku12.out).trans Ku13.out)).chg Ku14.out (fun b h1 h2 h => by have s0 := Kz1.out.size; have s1 := Kz2.out.size; have s2 := Ku3.out.size; have s3 := Ku4.out.size; have s4 := Ku5.out.size; have s5 := Ku6.out.size; have s6 := Ku7.out.size; have s7 := Ku8.out.size; have s8 := Ku9.out.size; have s9 := Ku10.out.size; have s10 := Ku11.out.size; have s11 := Ku12.out.size; have s12 := Ku13.out.size; skip; have bb := ((OX2.out.new ((((((Ku7.out.trans Ku8.out).trans Ku9.out).trans Ku10.out).trans Ku11.out).trans Ku12.out).trans Ku13.out))).bounds h.1 h.2; omega))
      have Og0_u14 := Lib.hid ((Og0.out.new ((((Ku9.out.trans Ku10.out).trans Ku11.out).trans Ku12.out).trans Ku13.out)).chg Ku14.out (fun b h1 h2 h => by have s0 := Kz1.out.size; have s1 := Kz2.out.size; have s2 := Ku3.out.size; have s3 := Ku4.out.size; have s4 := Ku5.out.size; have s5 := Ku6.out.size; have s6 := Ku7.out.size; have s7 := Ku8.out.size; have s8 := Ku9.out.size; have s9 := Ku10.out.size; have s10 := Ku11.out.size; have s11 := Ku12.out.size; have s12 := Ku13.out.size; skip; have bb := ((OX2.out.new ((((((Ku7.out.trans Ku8.out).trans Ku9.out).trans Ku10.out).trans Ku11.out).trans Ku12.out).trans Ku13.out))).bounds h.1 h.2; omega))
      have OX4_u14 := Lib.hid ((OX4.out.new ((Ku11.out.trans Ku12.out).trans Ku13.out)).chg Ku14.out (fun b h1 h2 h => by have s0 := Kz1.out.size; have s1 := Kz2.out.size; have s2 := Ku3.out.size; have s3 := Ku4.out.size; have s4 := Ku5.out.size; have s5 := Ku6.out.size; have s6 := Ku7.out.size; have s7 := Ku8.out.size; have s8 := Ku9.out.size; have s9 := Ku10.out.size; have s10 := Ku11.out.size; have s11 := Ku12.out.size; have s12 := Ku13.out.size; skip; have bb := ((OX2.out.new ((((((Ku7.out.trans Ku8.out).trans Ku9.out).trans Ku10.out).trans Ku11.out).trans Ku12.out).trans Ku13.out))).bounds h.1 h.2; omega))
      have OX5_u14 := Lib.hid ((OX5.out.new Ku13.out).chg Ku14.out (fun b h1 h2 h => by have s0 := Kz1.out.size; have s1 := Kz2.out.size; have s2 := Ku3.out.size; have s3 := Ku4.out.size; have s4 := Ku5.out.size; have s5 := Ku6.out.size; have s6 := Ku7.out.size; have s7 := Ku8.out.size; have s8 := Ku9.out.size; have s9 := Ku10.out.size; have s10 := Ku11.out.size; have s11 := Ku12.out.size; have s12 := Ku13.out.size; skip; have bb := ((OX2.out.new ((((((Ku7.out.trans Ku8.out).trans Ku9.out).trans Ku10.out).trans Ku11.out).trans Ku12.out).trans Ku13.out))).bounds h.1 h.2; omega))
      clear mu14
      have eu14 : ¬ 1 + 3 * (n0 : Int) < 0 := by omega
      go_wp2_with fail
      refine (markIntSS_any _ u6.heap.size u7.heap.size _ _ _ _ _ OX3_u14.out (by omega) (by omega)).mono ?_
      rintro e u15 ⟨rfl, mu15, ku15⟩
      have Ku15 := Lib.hid ku15; clear ku15
      have OX0_u14_u15 := Lib.hid (OX0_u14.out.chg Ku15.out (fun b h1 h2 h => by have s0 := Kz1.out.size; have s1 := Kz2.out.size; have s2 := Ku3.out.size; have s3 := Ku4.out.size; have s4 := Ku5.out.size; have s5 := Ku6.out.size; have s6 := Ku7.out.size; have s7 := Ku8.out.size; have s8 := Ku9.out.size; have s9 := Ku10.out.size; have s10 := Ku11.out.size; have s11 := Ku12.out.size; have s12 := Ku13.out.size; have s13 := Ku14.out.size; skip; have bb := h; omega))
      have OX1_u14_u15 := Lib.hid (OX1_u14.out.chg Ku15.out (fun b h1 h2 h => by have s0 := Kz1.out.size; have s1 := Kz2.out.size; have s2 := Ku3.out.size; have s3 := Ku4.out.size; have s4 := Ku5.out.size; have s5 := Ku6.out.size; have s6 := Ku7.out.size; have s7 := Ku8.out.size; have s8 := Ku9.out.size; have s9 := Ku10.out.size; have s10 := Ku11.out.size; have s11 := Ku12.out.size; have s12 := Ku13.out.size; have s13 := Ku14.out.size; skip; have bb := h; omega))
      have Op0_u14_u15 := Lib.hid (Op0_u14.out.chg Ku15.out (fun b h1 h2 h => by have s0 := Kz1.out.size; have s1 := Kz2.out.size; have s2 := Ku3.out.size; have s3 := Ku4.out.size; have s4 := Ku5.out.size; have s5 := Ku6.out.size; have s6 := Ku7.out.size; have s7 := Ku8.out.size; have s8 := Ku9.out.size; have s9 := Ku10.out.size; have s10 := Ku11.out.size; have s11 := Ku12.out.size; have s12 := Ku13.out.size; have s13 := Ku14.out.size; skip; have bb := h; omega))
      have Og0_u14_u15 := Lib.hid (Og0_u14.out.chg Ku15.out (fun b h1 h2 h => by have s0 := Kz1.out.size; have s1 := Kz2.out.size; have s2 := Ku3.out.size; have s3 := Ku4.out.size; have s4 := Ku5.out.size; have s5 := Ku6.out.size; have s6 := Ku7.out.size; have s7 := Ku8.out.size; have s8 := Ku9.out.size; have s9 := Ku10.out.size; have s10 := Ku11.out.size; have s11 := Ku12.out.size; have s12 := Ku13.out.size; have s13 := Ku14.out.size; skip; have bb := h; omega))
      have OX4_u14_u15 := Lib.hid (OX4_u14.out.chg Ku15.out (fun b h1 h2 h => by have s0 := Kz1.out.size; have s1 := Kz2.out.size; have s2 := Ku3.out.size; have s3 := Ku4.out.size; have s4 := Ku5.out.size; have s5 := Ku6.out.size; have s6 := Ku7.out.size; have s7 := Ku8.out.size; have s8 := Ku9.out.size; have s9 := Ku10.out.size; have s10 := Ku11.out.size; have s11 := Ku12.out.size; have s12 := Ku13.out.size; have s13 := Ku14.out.size; skip; have bb := h; omega))
      have OX5_u14_u15 := Lib.hid (OX5_u14.out.chg Ku15.out (fun b h1 h2 h => by have s0 := Kz1.out.size; have s1 := Kz2.out.size; have s2 := Ku3.out.size; have s3 := Ku4.out.size; have s4 := Ku5.out.size; have s5 := Ku6.out.size; have s6 := Ku7.out.size; have s7 := Ku8.out.size; have s8 := Ku9.out.size; have s9 := Ku10.out.size; have s10 := Ku11.out.size; have s11 := Ku12.out.size; have s12 := Ku13.out.size; have s13 := Ku14.out.size; skip; have bb := h; omega))
      clear mu15
      have eu15 : ¬ 1 + 3 * (n0 : Int) + ((totalSS (l1) : Nat) : Int) < 0 := by omega
      go_wp2_with fail
      refine (eqRatioS_same _ _ _ _ _ _ _ _ Og0_u14_u15.out.reads Op0_u14_u15.out.reads).mono ?_
      rintro e u16 ⟨rfl, n_u16⟩
      have Ku16 := Lib.hid n_u16; clear n_u16
      go_wp2_with fail
      have yu17 : g0n ≤ 1048576 := by have q1 := Og0_u14_u15.out.1; have q2 := LR0.out; omega
      refine (markRatioS_any _ u7.heap.size u8.heap.size _ _ _ _ _ (Og0_u14_u15.out.new Ku16.out) (by omega) (by omega)).mono ?_
      rintro e u17 ⟨rfl, mu17, ku17⟩
      have Ku17 := Lib.hid ku17; clear ku17
      have OX0_u14_u15_u17 := Lib.hid ((OX0_u14_u15.out.new Ku16.out).chg Ku17.out (fun b h1 h2 h => by have s0 := Kz1.out.size; have s1 := Kz2.out.size; have s2 := Ku3.out.size; have s3 := Ku4.out.size; have s4 := Ku5.out.size; have s5 := Ku6.out.size; have s6 := Ku7.out.size; have s7 := Ku8.out.size; have s8 := Ku9.out.size; have s9 := Ku10.out.size; have s10 := Ku11.out.size; have s11 := Ku12.out.size; have s12 := Ku13.out.size; have s13 := Ku14.out.size; have s14 := Ku15.out.size; have s15 := Ku16.out.size; skip; have bb := ((Og0_u14_u15.out.new Ku16.out)).bounds h.1 h.2; omega))
      have OX1_u14_u15_u17 := Lib.hid ((OX1_u14_u15.out.new Ku16.out).chg Ku17.out (fun b h1 h2 h => by have s0 := Kz1.out.size; have s1 := Kz2.out.size; have s2 := Ku3.out.size; have s3 := Ku4.out.size; have s4 := Ku5.out.size; have s5 := Ku6.out.size; have s6 := Ku7.out.size; have s7 := Ku8.out.size; have s8 := Ku9.out.size; have s9 := Ku10.out.size; have s10 := Ku11.out.size; have s11 := Ku12.out.size; have s12 := Ku13.out.size; have s13 := Ku14.out.size; have s14 := Ku15.out.size; have s15 := Ku16.out.size; skip; have bb := ((Og0_u14_u15.out.new Ku16.out)).bounds h.1 h.2; omega))
      have Op0_u14_u15_u17 := Lib.hid ((Op0_u14_u15.out.new Ku16.out).chg Ku17.out (fun b h1 h2 h => by have s0 := Kz1.out.size; have s1 := Kz2.out.size; have s2 := Ku3.out.size; have s3 := Ku4.out.size; have s4 := Ku5.out.size; have s5 := Ku6.out.size; have s6 := Ku7.out.size; have s7 := Ku8.out.size; have s8 := Ku9.out.size; have s9 := Ku10.out.size; have s10 := Ku11.out.size; have s11 := Ku12.out.size; have s12 := Ku13.out.size; have s13 := Ku14.out.size; have s14 := Ku15.out.size; have s15 := Ku16.out.size; skip; have bb := ((Og0_u14_u15.out.new Ku16.out)).bounds h.1 h.2; omega))
      have OX4_u14_u15_u17 := Lib.hid ((OX4_u14_u15.out.new Ku16.out).chg Ku17.out (fun b h1 h2 h => by have s0 := Kz1.out.size; have s1 := Kz2.out.size; have s2 := Ku3.out.size; have s3 := Ku4.out.size; have s4 := Ku5.out.size; have s5 := Ku6.out.size; have s6 := Ku7.out.size; have s7 := Ku8.out.size; have s8 := Ku9.out.size; have s9 := Ku10.out.size; have s10 := Ku11.out.size; have s11 := Ku12.out.size; have s12 := Ku13.out.size; have s13 := Ku14.out.size; have s14 := Ku15.out.size; have s15 := Ku16.out.size; skip; have bb := ((Og0_u14_u15.out.new Ku16.out)).bounds h.1 h.2; omega))
      have OX5_u14_u15_u17 := Lib.hid ((OX5_u14_u15.out.new Ku16.out).chg Ku17.out (fun b h1 h2 h => by have s0 := Kz1.out.size; have s1 := Kz2.out.size; have s2 := Ku3.out.size; have s3 := Ku4.out.size; have s4 := Ku5.out.size; have s5 := Ku6.out.size; have s6 := Ku7.out.size; have s7 := Ku8.out.size; have s8 := Ku9.out.size; have s9 := Ku10.out.size; have s10 := Ku11.out.size; have s11 := Ku12.out.size; have s12 := Ku13.out.size; have s13 := Ku14.out.size; have s14 := Ku15.out.size; have s15 := Ku16.out.size; skip; have bb := ((Og0_u14_u15.out.new Ku16.out)).bounds h.1 h.2; omega))
      have Mu17 := Lib.hid mu17; clear mu17
      have eu17 : ¬ 1 + 2 * (g0n : Int) < 0 := by omega
      go_wp2_with fail
      refine (heldRatioS_new _ _ _ _ _ Mu17.out.reads (by omega) (by omega)).mono ?_
      rintro e u18 ⟨rfl, n_u18⟩
      have Ku18 := Lib.hid n_u18; clear n_u18
      go_wp2_with fail
      refine (toTankS_any _ _ _ _ _ (HA0.out.new ((Chg.new ((Chg.new (Chg.new ((((((((((((Kz1.out.trans Kz2.out).trans Ku3.out).trans Ku4.out).trans Ku5.out).trans Ku6.out).trans Ku7.out).trans Ku8.out).trans Ku9.out).trans Ku10.out).trans Ku11.out).trans Ku12.out).trans Ku13.out) Ku14.out (fun i hi => by have s0 := Kz1.out.size; have s1 := Kz2.out.size; have s2 := Ku3.out.size; have s3 := Ku4.out.size; have s4 := Ku5.out.size; have s5 := Ku6.out.size; have s6 := Ku7.out.size; have s7 := Ku8.out.size; have s8 := Ku9.out.size; have s9 := Ku10.out.size; have s10 := Ku11.out.size; have s11 := Ku12.out.size; have s12 := Ku13.out.size; skip; have bb := ((OX2.out.new ((((((Ku7.out.trans Ku8.out).trans Ku9.out).trans Ku10.out).trans Ku11.out).trans Ku12.out).trans Ku13.out))).bounds hi.1 hi.2; omega)) Ku15.out (fun i hi => by have s0 := Kz1.out.size; have s1 := Kz2.out.size; have s2 := Ku3.out.size; have s3 := Ku4.out.size; have s4 := Ku5.out.size; have s5 := Ku6.out.size; have s6 := Ku7.out.size; have s7 := Ku8.out.size; have s8 := Ku9.out.size; have s9 := Ku10.out.size; have s10 := Ku11.out.size; have s11 := Ku12.out.size; have s12 := Ku13.out.size; have s13 := Ku14.out.size; skip; have bb := hi; omega)).trans Ku16.out) Ku17.out (fun i hi => by have s0 := Kz1.out.size; have s1 := Kz2.out.size; have s2 := Ku3.out.size; have s3 := Ku4.out.size; have s4 := Ku5.out.size; have s5 := Ku6.out.size; have s6 := Ku7.out.size; have s7 := Ku8.out.size; have s8 := Ku9.out.size; have s9 := Ku10.out.size; have s10 := Ku11.out.size; have s11 := Ku12.out.size; have s12 := Ku13.out.size; have s13 := Ku14.out.size; have s14 := Ku15.out.size; have s15 := Ku16.out.size; skip; have bb := ((Og0_u14_u15.out.new Ku16.out)).bounds hi.1 hi.2; omega)).trans Ku18.out)) hn0).mono ?_
      rintro e u19 ⟨x6a, x6c, rfl, oX6, n_u19⟩
      have Ku19 := Lib.hid n_u19; clear n_u19
      have OX6 := Lib.hid oX6; clear oX6
      go_wp2_with fail
      refine (toIntSS_any _ _ _ _ _ (HA1.out.new (((Chg.new ((Chg.new (Chg.new ((((((((((((Kz1.out.trans Kz2.out).trans Ku3.out).trans Ku4.out).trans Ku5.out).trans Ku6.out).trans Ku7.out).trans Ku8.out).trans Ku9.out).trans Ku10.out).trans Ku11.out).trans Ku12.out).trans Ku13.out) Ku14.out (fun i hi => by have s0 := Kz1.out.size; have s1 := Kz2.out.size; have s2 := Ku3.out.size; have s3 := Ku4.out.size; have s4 := Ku5.out.size; have s5 := Ku6.out.size; have s6 := Ku7.out.size; have s7 := Ku8.out.size; have s8 := Ku9.out.size; have s9 := Ku10.out.size; have s10 := Ku11.out.size; have s11 := Ku12.out.size; have s12 := Ku13.out.size; skip; have bb := ((OX2.out.new ((((((Ku7.out.trans Ku8.out).trans Ku9.out).trans Ku10.out).trans Ku11.out).trans Ku12.out).trans Ku13.out))).bounds hi.1 hi.2; omega)) Ku15.out (fun i hi => by have s0 := Kz1.out.size; have s1 := Kz2.out.size; have s2 := Ku3.out.size; have s3 := Ku4.out.size; have s4 := Ku5.out.size; have s5 := Ku6.out.size; have s6 := Ku7.out.size; have s7 := Ku8.out.size; have s8 := Ku9.out.size; have s9 := Ku10.out.size; have s10 := Ku11.out.size; have s11 := Ku12.out.size; have s12 := Ku13.out.size; have s13 := Ku14.out.size; skip; have bb := hi; omega)).trans Ku16.out) Ku17.out (fun i hi => by have s0 := Kz1.out.size; have s1 := Kz2.out.size; have s2 := Ku3.out.size; have s3 := Ku4.out.size; have s4 := Ku5.out.size; have s5 := Ku6.out.size; have s6 := Ku7.out.size; have s7 := Ku8.out.size; have s8 := Ku9.out.size; have s9 := Ku10.out.size; have s10 := Ku11.out.size; have s11 := Ku12.out.size; have s12 := Ku13.out.size; have s13 := Ku14.out.size; have s14 := Ku15.out.size; have s15 := Ku16.out.size; skip; have bb := ((Og0_u14_u15.out.new Ku16.out)).bounds hi.1 hi.2; omega)).trans Ku18.out).trans Ku19.out)) ⟨hn1, hm1⟩).mono ?_
      rintro e u20 ⟨x7a, x7c, rfl, oX7, n_u20⟩
      have Ku20 := Lib.hid n_u20; clear n_u20
      have OX7 := Lib.hid oX7; clear oX7
      go_wp2_with fail
      refine (iGroupLevels_any _ _ _ _ _ _ _ _ _ (OX6.out.new Ku20.out).reads OX7.out.reads).mono ?_
      rintro e u21 ⟨f0a, f0n, f0c, rfl, of0, n_u21⟩
      have Ku21 := Lib.hid n_u21; clear n_u21
      have Of0 := Lib.hid of0; clear of0
      go_wp2_with fail
      refine (eqRatioS_same _ _ _ _ _ _ _ _ Of0.out.reads (Op0_u14_u15_u17.out.new (((Ku18.out.trans Ku19.out).trans Ku20.out).trans Ku21.out)).reads).mono ?_
      rintro e u22 ⟨rfl, n_u22⟩
      have Ku22 := Lib.hid n_u22; clear n_u22
      go_wp2_with fail
      refine (heldRatioS_new _ _ _ _ _ (Mu17.out.new ((((Ku18.out.trans Ku19.out).trans Ku20.out).trans Ku21.out).trans Ku22.out)).reads (by omega) (by omega)).mono ?_
      rintro e u23 ⟨rfl, n_u23⟩
      have Ku23 := Lib.hid n_u23; clear n_u23
      go_wp2
      go_ret
      exact ⟨rfl, (((((((Chg.new ((Chg.new (Chg.new ((((((((((((Kz1.out.trans Kz2.out).trans Ku3.out).trans Ku4.out).trans Ku5.out).trans Ku6.out).trans Ku7.out).trans Ku8.out).trans Ku9.out).trans Ku10.out).trans Ku11.out).trans Ku12.out).trans Ku13.out) Ku14.out (fun i hi => by have s0 := Kz1.out.size; have s1 := Kz2.out.size; have s2 := Ku3.out.size; have s3 := Ku4.out.size; have s4 := Ku5.out.size; have s5 := Ku6.out.size; have s6 := Ku7.out.size; have s7 := Ku8.out.size; have s8 := Ku9.out.size; have s9 := Ku10.out.size; have s10 := Ku11.out.size; have s11 := Ku12.out.size; have s12 := Ku13.out.size; skip; have bb := ((OX2.out.new ((((((Ku7.out.trans Ku8.out).trans Ku9.out).trans Ku10.out).trans Ku11.out).trans Ku12.out).trans Ku13.out))).bounds hi.1 hi.2; omega)) Ku15.out (fun i hi => by have s0 := Kz1.out.size; have s1 := Kz2.out.size; have s2 := Ku3.out.size; have s3 := Ku4.out.size; have s4 := Ku5.out.size; have s5 := Ku6.out.size; have s6 := Ku7.out.size; have s7 := Ku8.out.size; have s8 := Ku9.out.size; have s9 := Ku10.out.size; have s10 := Ku11.out.size; have s11 := Ku12.out.size; have s12 := Ku13.out.size; have s13 := Ku14.out.size; skip; have bb := hi; omega)).trans Ku16.out) Ku17.out (fun i hi => by have s0 := Kz1.out.size; have s1 := Kz2.out.size; have s2 := Ku3.out.size; have s3 := Ku4.out.size; have s4 := Ku5.out.size; have s5 := Ku6.out.size; have s6 := Ku7.out.size; have s7 := Ku8.out.size; have s8 := Ku9.out.size; have s9 := Ku10.out.size; have s10 := Ku11.out.size; have s11 := Ku12.out.size; have s12 := Ku13.out.size; have s13 := Ku14.out.size; have s14 := Ku15.out.size; have s15 := Ku16.out.size; skip; have bb := ((Og0_u14_u15.out.new Ku16.out)).bounds hi.1 hi.2; omega)).trans Ku18.out).trans Ku19.out).trans Ku20.out).trans Ku21.out).trans Ku22.out).trans Ku23.out)⟩
end Go.Proofs.Ytlhpkpfnaepgbaa
