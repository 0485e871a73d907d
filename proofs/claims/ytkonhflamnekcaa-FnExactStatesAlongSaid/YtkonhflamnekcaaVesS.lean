/- Lists of vessels: how they read, own rows apart from each other, and the laws' helpers over them. -/
import Derived.Test.YtkonhflamnekcaaAlongS2
import Derived.Test.YtkonhflamnekcaaMarkV
import Derived.Deep.RegionHeld3
namespace Go.Proofs.Ytkonhflamnekcaa
open Go.RowKit

/-- A product that omega takes for a number of its own. -/
def mulc (k c : Nat) : Int := ((k * c : Nat) : Int)
theorem mulc_zero (c : Nat) : mulc 0 c = 0 := by simp [mulc]
theorem mulc_succ (k c : Nat) : mulc (k + 1) c = mulc k c + c := by unfold mulc; rw [Nat.succ_mul]; push_cast; rfl
theorem mulc_bd {k c : Nat} (hk : k ≤ 1000) (hc : c ≤ 10) : 0 ≤ mulc k c ∧ mulc k c ≤ 10000 := by
  unfold mulc
  have := Nat.mul_le_mul hk hc
  omega

def VRead (w : World) (ao : Option Addr) (N : Nat) (SS AA : Nat → List Int) : Prop :=
  N ≤ 1000 ∧ ∀ j, j < N → ∃ b sa n sc sb m sd, ao = some ⟨b, 0, none⟩ ∧ w.cell? ⟨b, j * 2, none⟩ = some (.slice sa n sc) ∧ w.cell? ⟨b, j * 2 + 1, none⟩ = some (.slice sb m sd) ∧ Ints w sa n sc (SS j) ∧ Ints w sb m sd (AA j)
theorem VRead.new {w w' : World} {ao : Option Addr} {N : Nat} {SS AA : Nat → List Int} (h : VRead w ao N SS AA) (k : New w w') : VRead w' ao N SS AA :=
  ⟨h.1, fun j hj => by
    obtain ⟨b, sa, n, sc, sb, m, sd, e, c0, c1, i0, i1⟩ := h.2 j hj
    exact ⟨b, sa, n, sc, sb, m, sd, e, k.cell c0, k.cell c1, i0.new k, i1.new k⟩⟩
/-- All in blocks from lo on, below hi. -/
def VSide (w : World) (lo hi : Nat) (ao : Option Addr) (N : Nat) (SS AA : Nat → List Int) : Prop :=
  N ≤ 1000 ∧ ∀ j, j < N → ∃ b sa n sc sb m sd, ao = some ⟨b, 0, none⟩ ∧ lo ≤ b ∧ b < hi ∧ w.cell? ⟨b, j * 2, none⟩ = some (.slice sa n sc) ∧ w.cell? ⟨b, j * 2 + 1, none⟩ = some (.slice sb m sd) ∧ OwnV w lo hi sa n sc sb m sd (SS j) (AA j)
theorem VSide.read {w : World} {lo hi : Nat} {ao : Option Addr} {N : Nat} {SS AA : Nat → List Int} (h : VSide w lo hi ao N SS AA) : VRead w ao N SS AA :=
  ⟨h.1, fun j hj => by
    obtain ⟨b, sa, n, sc, sb, m, sd, e, _, _, c0, c1, o⟩ := h.2 j hj
    exact ⟨b, sa, n, sc, sb, m, sd, e, c0, c1, o.1.ints, o.2.1.ints⟩⟩
theorem VSide.new {w w' : World} {lo hi : Nat} {ao : Option Addr} {N : Nat} {SS AA : Nat → List Int} (h : VSide w lo hi ao N SS AA) (k : New w w') : VSide w' lo hi ao N SS AA :=
  ⟨h.1, fun j hj => by
    obtain ⟨b, sa, n, sc, sb, m, sd, e, h1, h2, c0, c1, o⟩ := h.2 j hj
    exact ⟨b, sa, n, sc, sb, m, sd, e, h1, h2, k.cell c0, k.cell c1, o.new k⟩⟩
theorem VSide.chg {P : Nat → Prop} {w w' : World} {lo hi : Nat} {ao : Option Addr} {N : Nat} {SS AA : Nat → List Int} (h : VSide w lo hi ao N SS AA) (k : Chg P w w') (hP : ∀ b, lo ≤ b → b < hi → ¬ P b) : VSide w' lo hi ao N SS AA :=
  ⟨h.1, fun j hj => by
    obtain ⟨b, sa, n, sc, sb, m, sd, e, h1, h2, c0, c1, o⟩ := h.2 j hj
    exact ⟨b, sa, n, sc, sb, m, sd, e, h1, h2, k.cell c0 (hP b h1 h2), k.cell c1 (hP b h1 h2), o.chg k hP⟩⟩
/-- The same, the blocks of each of the vessels behind those of the one before. -/
def VOwn (w : World) (lo hi : Nat) (ao : Option Addr) (N n : Nat) (Bd : Nat → Nat) (SS AA : Nat → List Int) : Prop :=
  N ≤ 1000 ∧ n ≤ 5 ∧ (∀ j, j < N → Bd j ≤ Bd (j + 1)) ∧ Bd N ≤ hi ∧ ∀ j, j < N → ∃ b sa sc sb sd, ao = some ⟨b, 0, none⟩ ∧ lo ≤ b ∧ b < Bd 0 ∧ w.cell? ⟨b, j * 2, none⟩ = some (.slice sa n sc) ∧ w.cell? ⟨b, j * 2 + 1, none⟩ = some (.slice sb n sd) ∧ OwnV w (Bd j) (Bd (j + 1)) sa n sc sb n sd (SS j) (AA j)
theorem bd_mono {Bd : Nat → Nat} {N : Nat} (h : ∀ j, j < N → Bd j ≤ Bd (j + 1)) {i j : Nat} (hij : i ≤ j) (hj : j ≤ N) : Bd i ≤ Bd j := by
  induction j with
  | zero => obtain rfl : i = 0 := by omega
            exact Nat.le_refl _
  | succ j ih =>
    by_cases e : i = j + 1
    · subst e; exact Nat.le_refl _
    · exact Nat.le_trans (ih (by omega) (by omega)) (h j (by omega))
theorem VOwn.side {w : World} {lo hi : Nat} {ao : Option Addr} {N n : Nat} {Bd : Nat → Nat} {SS AA : Nat → List Int} (h : VOwn w lo hi ao N n Bd SS AA) : VSide w lo hi ao N SS AA :=
  ⟨h.1, fun j hj => by
    obtain ⟨h1, h2, h3, h4, h5⟩ := h
    obtain ⟨b, sa, sc, sb, sd, e, q1, q2, c0, c1, o⟩ := h5 j hj
    have m0 := bd_mono h3 (Nat.zero_le j) (by omega)
    have m1 := bd_mono h3 (show j + 1 ≤ N by omega) (Nat.le_refl _)
    have m2 := h3 j hj
    exact ⟨b, sa, n, sc, sb, n, sd, e, q1, by omega, c0, c1, o.mono (by omega) (by omega)⟩⟩
theorem VOwn.new {w w' : World} {lo hi : Nat} {ao : Option Addr} {N n : Nat} {Bd : Nat → Nat} {SS AA : Nat → List Int} (h : VOwn w lo hi ao N n Bd SS AA) (k : New w w') : VOwn w' lo hi ao N n Bd SS AA :=
  ⟨h.1, h.2.1, h.2.2.1, h.2.2.2.1, fun j hj => by
    obtain ⟨b, sa, sc, sb, sd, e, q1, q2, c0, c1, o⟩ := h.2.2.2.2 j hj
    exact ⟨b, sa, sc, sb, sd, e, q1, q2, k.cell c0, k.cell c1, o.new k⟩⟩
theorem VOwn.chg {P : Nat → Prop} {w w' : World} {lo hi : Nat} {ao : Option Addr} {N n : Nat} {Bd : Nat → Nat} {SS AA : Nat → List Int} (h : VOwn w lo hi ao N n Bd SS AA) (k : Chg P w w') (hP : ∀ b, lo ≤ b → b < hi → ¬ P b) : VOwn w' lo hi ao N n Bd SS AA :=
  ⟨h.1, h.2.1, h.2.2.1, h.2.2.2.1, fun j hj => by
    obtain ⟨b, sa, sc, sb, sd, e, q1, q2, c0, c1, o⟩ := h.2.2.2.2 j hj
    have m0 := bd_mono h.2.2.1 (Nat.zero_le j) (by omega)
    have m1 := bd_mono h.2.2.1 (show j + 1 ≤ N by omega) (Nat.le_refl _)
    have m2 := h.2.2.1 j hj
    have m3 := h.2.2.2.1
    exact ⟨b, sa, sc, sb, sd, e, q1, q2, k.cell c0 (hP b q1 (by omega)), k.cell c1 (hP b q1 (by omega)), o.chg k fun i h1 h2 => hP i (by omega) (by omega)⟩⟩

set_option maxHeartbeats 2000000 in
theorem eqVesselsS_same (w : World) (aa ab : Option Addr) (N ca cb : Nat) (SS AA : Nat → List Int) (ha : VRead w aa N SS AA) (hb : VRead w ab N SS AA) :
    Calls Try.prog 24 #[.slice aa N ca, .slice ab N cb] w fun e w' => e = .returned (.bool true) ∧ New w w' := by
  have hN := ha.1
  have HA := Lib.hid ha; clear ha
  have HB := Lib.hid hb; clear hb
  go_enter Try.func24, Try.ntmps24
  go_wp2
  go_loopw [5] (fun i wr => ∃ k : Nat, k ≤ N ∧ i = .int .i64 k ∧ New w wr) (fun i _ => N - (intOf i).toNat)
  case atStart => exact ⟨0, Nat.zero_le _, rfl, New.refl _⟩
  case round =>
    obtain ⟨k, hk, rfl, hnw⟩ := hrel
    have NW := Lib.hid hnw; clear hnw
    by_cases hlt : k < N
    · obtain ⟨ba, sa, n1, sc, sb, m1, sd, rfl, c0, c1, i0, i1⟩ := (HA.out.new NW.out).2 k hlt
      obtain ⟨bb, ta, n2, tc, tb, m2, td, rfl, d0, d1, i2, i3⟩ := (HB.out.new NW.out).2 k hlt
      have I0 := Lib.hid (And.intro i0 i1); clear i0 i1
      have I2 := Lib.hid (And.intro i2 i3); clear i2 i3
      go_wp2
      go_region_held3 (fun w' => w'.cell? ⟨ba, k * 2, none⟩ = some (.slice sa n1 sc) ∧ w'.cell? ⟨ba, k * 2 + 1, none⟩ = some (.slice sb m1 sd) ∧ w'.cell? ⟨bb, k * 2, none⟩ = some (.slice ta n2 tc) ∧ w'.cell? ⟨bb, k * 2 + 1, none⟩ = some (.slice tb m2 td))
        (first | exact ⟨c0, c1, d0, d1⟩ | exact ⟨n3.cell c0, n3.cell c1, n3.cell d0, n3.cell d1⟩ | fail)
        (first | (go_at_call 17; refine (eqVessels_any _ _ _ _ _ _ _ _ _ _ _ _ _ (SS k) (AA k) (SS k) (AA k) ?_ ?_ ?_ ?_).mono ?_; exact I0.out.1.new (by repeat (first | with_reducible exact New.refl _ | with_reducible assumption | refine New.drewN ?_ _ | refine New.drew ?_ | refine New.alloc ?_ _ | refine New.setCell ?_ (by first | omega | (simp; omega) | (simp; done)) _ | (refine New.trans ?_ (by assumption)))); exact I0.out.2.new (by repeat (first | with_reducible exact New.refl _ | with_reducible assumption | refine New.drewN ?_ _ | refine New.drew ?_ | refine New.alloc ?_ _ | refine New.setCell ?_ (by first | omega | (simp; omega) | (simp; done)) _ | (refine New.trans ?_ (by assumption)))); exact I2.out.1.new (by repeat (first | with_reducible exact New.refl _ | with_reducible assumption | refine New.drewN ?_ _ | refine New.drew ?_ | refine New.alloc ?_ _ | refine New.setCell ?_ (by first | omega | (simp; omega) | (simp; done)) _ | (refine New.trans ?_ (by assumption)))); exact I2.out.2.new (by repeat (first | with_reducible exact New.refl _ | with_reducible assumption | refine New.drewN ?_ _ | refine New.drew ?_ | refine New.alloc ?_ _ | refine New.setCell ?_ (by first | omega | (simp; omega) | (simp; done)) _ | (refine New.trans ?_ (by assumption)))); rintro e w1 ⟨rfl, n3⟩))
      go_wp2
      go_roundw
      case rel => exact ⟨k + 1, by omega, by go_num, NW.out.trans (New.trans (by repeat (first | with_reducible exact New.refl _ | with_reducible assumption | refine New.drewN ?_ _ | refine New.drew ?_ | refine New.alloc ?_ _ | refine New.setCell ?_ (by first | omega | (simp; omega) | (simp; done)) _ | (refine New.trans ?_ (by assumption)))) n3)⟩
      case measure => simp [intOf]; omega
    · go_wp2
      go_ret
      exact ⟨rfl, NW.out⟩

set_option maxHeartbeats 2000000 in
theorem heldVesselsS_any (w : World) (ao : Option Addr) (N n cap : Nat) (x : Int) (hn : n ≤ 5) (ha : VRead w ao N (fun j => marks (x + mulc j (2 * n)) n) (fun j => marks (x + mulc j (2 * n) + n) n)) (h0 : 0 ≤ x) (h1 : x ≤ 1000000) :
    Calls Try.prog 26 #[.slice ao N cap, .int .i64 x] w fun e w' => e = .returned (.int .i64 (x + mulc N (2 * n))) ∧ New w w' := by
  have hN := ha.1
  have HA := Lib.hid ha; clear ha
  go_enter Try.func26, Try.ntmps26
  go_wp2
  go_loopw [1, 5] (fun y i wr => ∃ k : Nat, k ≤ N ∧ i = .int .i64 k ∧ y = .int .i64 (x + mulc k (2 * n)) ∧ New w wr) (fun _ i _ => N - (intOf i).toNat)
  case atStart => exact ⟨0, Nat.zero_le _, rfl, by rw [mulc_zero, Int.add_zero], New.refl _⟩
  case round =>
    obtain ⟨k, hk, rfl, rfl, hnw⟩ := hrel
    have NW := Lib.hid hnw; clear hnw
    by_cases hlt : k < N
    · obtain ⟨ba, sa, n1, sc, sb, m1, sd, rfl, c0, c1, i0, i1⟩ := (HA.out.new NW.out).2 k hlt
      have l0 := i0.len
      have l1 := i1.len
      rw [marks_length] at l0 l1
      subst l0
      subst l1
      have I0 := Lib.hid (And.intro i0 i1); clear i0 i1
      obtain ⟨b0, b1⟩ := mulc_bd (show k ≤ 1000 by omega) (show 2 * m1 ≤ 10 by omega)
      have hs := mulc_succ k (2 * m1)
      have HS := Lib.hid hs; clear hs
      go_wp2_with fail
      refine (heldIntS_any _ _ _ _ _ I0.out.1 (by omega) (by omega)).mono ?_
      rintro e w2 ⟨rfl, q1, hq1⟩
      have n2 : New wr w2 := by rw [hq1]; exact (New.refl _).drewN _
      clear hq1
      replace c0 := n2.cell c0
      replace c1 := n2.cell c1
      have N2 := Lib.hid n2; clear n2
      have e1 : ¬ x + mulc k (2 * m1) + (m1 : Int) < 0 := by omega
      go_wp2_with fail
      refine (heldIntS_any _ _ _ _ _ (I0.out.2.new N2.out) (by omega) (by omega)).mono ?_
      rintro e w3 ⟨rfl, q2, hq2⟩
      have n3 : New w2 w3 := by rw [hq2]; exact (New.refl _).drewN _
      clear hq2
      have N3 := Lib.hid n3; clear n3
      have e2 : ¬ x + mulc k (2 * m1) + (m1 : Int) + (m1 : Int) < 0 := by omega
      go_wp2
      go_roundw
      case rel => exact ⟨k + 1, by omega, by go_num, congrArg (Value.int .i64) (by have := HS.out; omega), (NW.out.trans N2.out).trans N3.out⟩
      case measure => simp [intOf]; omega
    · obtain rfl : k = N := by omega
      go_wp2
      go_ret
      exact ⟨rfl, NW.out⟩

set_option maxHeartbeats 2000000 in
theorem markVesselsS_any (w : World) (lo hi : Nat) (ao : Option Addr) (N n cap : Nat) (Bd : Nat → Nat) (SS AA : Nat → List Int) (x : Int) (ha : VOwn w lo hi ao N n Bd SS AA) (h0 : 0 ≤ x) (h1 : x ≤ 1000000) :
    Calls Try.prog 25 #[.slice ao N cap, .int .i64 x] w fun e w' => e = .returned (.int .i64 (x + mulc N (2 * n))) ∧ VOwn w' lo hi ao N n Bd (fun j => marks (x + mulc j (2 * n)) n) (fun j => marks (x + mulc j (2 * n) + n) n) ∧ Chg (fun b => lo ≤ b ∧ b < hi) w w' := by
  obtain ⟨hN, hn, hbd, hhi, hel⟩ := ha
  have HE := Lib.hid hel; clear hel
  have HBD := Lib.hid (And.intro hbd hhi); clear hbd hhi
  go_enter Try.func25, Try.ntmps25
  go_wp2
  go_loopw [1, 5] (fun y i wr => ∃ k : Nat, k ≤ N ∧ i = .int .i64 k ∧ y = .int .i64 (x + mulc k (2 * n)) ∧ Chg (fun b => lo ≤ b ∧ b < hi) w wr ∧
    VOwn wr lo hi ao N n Bd (fun j => if j < k then marks (x + mulc j (2 * n)) n else SS j) (fun j => if j < k then marks (x + mulc j (2 * n) + n) n else AA j)) (fun _ i _ => N - (intOf i).toNat)
  case atStart => exact ⟨0, Nat.zero_le _, rfl, by rw [mulc_zero, Int.add_zero], Chg.refl _ _, hN, hn, HBD.out.1, HBD.out.2, by simpa using HE.out⟩
  case round =>
    obtain ⟨k, hk, rfl, rfl, hch, hvo⟩ := hrel
    have HC := Lib.hid hch; clear hch
    have HV := Lib.hid hvo; clear hvo
    by_cases hlt : k < N
    · obtain ⟨b, sa, sc, sb, sd, rfl, q1, q2, c0, c1, o⟩ := HV.out.2.2.2.2 k hlt
      have OV := Lib.hid o; clear o
      obtain ⟨b0, b1⟩ := mulc_bd (show k ≤ 1000 by omega) (show 2 * n ≤ 10 by omega)
      have HS := Lib.hid (mulc_succ k (2 * n))
      have m0 := bd_mono HBD.out.1 (Nat.zero_le k) (by omega)
      have m1 := bd_mono HBD.out.1 (show k + 1 ≤ N by omega) (Nat.le_refl _)
      have m2 := HBD.out.1 k hlt
      have m3 := HBD.out.2
      go_wp2_with fail
      refine (markIntS_any _ (Bd k) (Bd (k + 1)) _ _ _ _ _ OV.out.1 (by omega) (by omega)).mono ?_
      rintro e w2 ⟨rfl, o2, k2⟩
      have k2' : Chg (fun i => Bd k ≤ i ∧ i < Bd (k + 1)) wr w2 := k2.mono fun i hi => OV.out.1.bounds hi.1 hi.2
      replace c0 := k2'.cell c0 (fun h => by simp at h; omega)
      replace c1 := k2'.cell c1 (fun h => by simp at h; omega)
      have O2 := Lib.hid o2
      have OH := Lib.hid (show Own w2 (Bd k) (Bd (k + 1)) sb n sd _ from OV.out.2.1.turned fun i hi hb hlt => k2.block i hlt fun h => OV.out.2.2 h.1 hi (h.2.trans hb.symm))
      have K2 := Lib.hid k2'; clear k2' k2 o2
      go_wp2_with fail
      refine (markIntS_any _ (Bd k) (Bd (k + 1)) _ _ _ _ _ OH.out (by omega) (by omega)).mono ?_
      rintro e w3 ⟨rfl, o3, k3⟩
      have k3' : Chg (fun i => Bd k ≤ i ∧ i < Bd (k + 1)) w2 w3 := k3.mono fun i hi => OV.out.2.1.bounds hi.1 hi.2
      replace c0 := k3'.cell c0 (fun h => by simp at h; omega)
      replace c1 := k3'.cell c1 (fun h => by simp at h; omega)
      have OS := Lib.hid (show Own w3 (Bd k) (Bd (k + 1)) sa n sc _ from O2.out.turned fun i hi hb hlt => k3.block i hlt fun h => OV.out.2.2 hi h.1 (hb.trans h.2.symm))
      have O3 := Lib.hid o3
      have K3 := Lib.hid (K2.out.trans k3'); clear k3' k3 o3
      go_wp2
      go_roundw
      case rel =>
        refine ⟨k + 1, by omega, by go_num, congrArg (Value.int .i64) (by have := HS.out; omega), HC.out.trans (K3.out.mono fun i hi => by omega), hN, hn, HBD.out.1, HBD.out.2, fun j hj => ?_⟩
        by_cases e : j = k
        · subst e
          refine ⟨b, sa, sc, sb, sd, rfl, q1, q2, c0, c1, ?_⟩
          dsimp only
          rw [if_pos (Nat.lt_succ_self _), if_pos (Nat.lt_succ_self _)]
          exact ⟨OS.out, O3.out, OV.out.2.2⟩
        · obtain ⟨b', sa', sc', sb', sd', e', p1, p2, d0, d1, o'⟩ := HV.out.2.2.2.2 j hj
          cases e'
          have z1 := HBD.out.1 j hj
          have hap : ∀ i, Bd j ≤ i → i < Bd (j + 1) → ¬ (Bd k ≤ i ∧ i < Bd (k + 1)) := fun i g1 g2 g3 => by
            by_cases h : j < k
            · have := bd_mono HBD.out.1 (show j + 1 ≤ k by omega) (by omega); omega
            · have := bd_mono HBD.out.1 (show k + 1 ≤ j by omega) (by omega); omega
          refine ⟨_, sa', sc', sb', sd', rfl, p1, p2, K3.out.cell d0 (fun h => by simp at h; omega), K3.out.cell d1 (fun h => by simp at h; omega), ?_⟩
          have o2 := o'.chg K3.out hap
          dsimp only at o2 ⊢
          by_cases h : j < k
          · rw [if_pos (show j < k + 1 by omega), if_pos (show j < k + 1 by omega)]
            rw [if_pos h, if_pos h] at o2
            exact o2
          · rw [if_neg (show ¬ j < k + 1 by omega), if_neg (show ¬ j < k + 1 by omega)]
            rw [if_neg h, if_neg h] at o2
            exact o2
      case measure => simp [intOf]; omega
    · obtain rfl : k = N := by omega
      go_wp2
      go_ret
      refine ⟨rfl, ⟨hN, hn, HBD.out.1, HBD.out.2, fun j hj => ?_⟩, HC.out⟩
      obtain ⟨b, sa, sc, sb, sd, e, q1, q2, c0, c1, o⟩ := HV.out.2.2.2.2 j hj
      dsimp only at o
      rw [if_pos hj, if_pos hj] at o
      exact ⟨b, sa, sc, sb, sd, e, q1, q2, c0, c1, o⟩
end Go.Proofs.Ytkonhflamnekcaa
