/- The program's flights: a chamber filled, a chamber emptied, or raised. -/
import Derived.Test.YtmhcnomkkjgidaaDoorLk
import Derived.Deep.RegionLaw
import Derived.Deep.RegionWith
import Derived.Deep.DeepCutAuto
import Derived.IntWalk
namespace Go.Proofs.YtmhcnomkkjgidaaDoor
open Go.RowKit

set_option maxRecDepth 100000 in
theorem iFill_any (w : World) (B : Nat) (al : Option Addr) (cl bf cf bc cc bn cn : Nat) (L : List Int) (s : LkS) (i : Nat) (hb : LkBox w B al cl bf cf bc cc bn cn L s) (hi : i < L.length) (hn : L.length ≤ 6) (hf : s.F[i]?.getD false = false) :
    Calls Tryd.prog 93 #[.pointer (some ⟨B, 0, none⟩), .int .i64 i] w fun e w' => e = .returned (.tuple #[]) ∧ LkBox w' B al cl bf cf bc cc bn cn L (fillK L s i) ∧ Chg (fun b => b = bf ∨ b = bc ∨ b = bn) w w' := by
  have HB := Lib.hid hb; clear hb
  have c1 := HB.out.c1
  have cc0 := HB.out.c0
  have cf0 := (HB.out.atF hi).1
  have gf := (HB.out.atF hi).2
  rw [hf] at cf0
  have HF := Lib.hid hf; clear hf
  · go_enter Tryd.func93, Tryd.ntmps93
    go_wp2
    obtain ⟨w1, hw1⟩ : ∃ w1, w1 = w.setCell ⟨bf, i, none⟩ (.bool true) := ⟨_, rfl⟩
    rw [← hw1]
    have B2 := Lib.hid (show LkBox w1 B al cl bf cf bc cc bn cn L ⟨s.F.set i true, s.C, s.N⟩ from hw1 ▸ HB.out.setF hi true)
    have C1 := Lib.hid (show Chg (fun b => b = bf ∨ b = bc ∨ b = bn) w w1 from hw1 ▸ LkBox.chg3 (p := ⟨bf, i, none⟩) (.inl rfl) _)
    have d0 := B2.out.c0
    have d2 := B2.out.c2
    obtain ⟨la, lo, hla, l0, zla⟩ := B2.out.lift.at hi
    obtain rfl : al = some ⟨la, lo, none⟩ := hla
    obtain ⟨e0, f0⟩ := B2.out.atC (i := i + 1) (by omega)
    obtain ⟨x, hx⟩ : ∃ x, x = s.C[i + 1]?.getD 0 := ⟨_, rfl⟩
    obtain ⟨y, hy⟩ : ∃ y, y = L[i]?.getD 0 := ⟨_, rfl⟩
    simp only [← hx] at e0
    simp only [← hy] at l0
    have HX := Lib.hid hx; have HY := Lib.hid hy; clear hx hy
    clear hw1 gf cf0 c1 cc0
    go_upto_region 3 with fail
    go_cut [] (fun W => W = (w1.setCell ⟨bc, i + 1, none⟩ (.int .i64 (wrap64 (x - y)))).drew)
    case first =>
      clear B2 HX HY HF HB C1
      go_region
      all_goals (go_wp2_with fail; go_meet)
      all_goals rfl
    case rest =>
      obtain ⟨w2, rfl⟩ : ∃ u : World, u = wc := ⟨_, rfl⟩
      have B3 := Lib.hid (show LkBox w2 B (some ⟨la, lo, none⟩) cl bf cf bc cc bn cn L ⟨s.F.set i true, s.C.set (i + 1) (wrap64 (s.C[i + 1]?.getD 0 - L[i]?.getD 0)), s.N⟩ from by
        rw [hcut, HX.out, HY.out]; exact (B2.out.setC (i := i + 1) (by omega) _).new (New.refl _).drew)
      have C2 := Lib.hid (show Chg (fun b => b = bf ∨ b = bc ∨ b = bn) w w2 from by
        rw [hcut]; exact (C1.out.trans (LkBox.chg3 (p := ⟨bc, i + 1, none⟩) (.inr (.inl rfl)) _)).trans (Chg.of_new (New.refl _).drew))
      clear hcut d0 d2 l0 e0 f0 B2 C1 zla HX HY
      have d3 := B3.out.c3
      obtain ⟨e0, f0⟩ := B3.out.atN hi
      go_wp2
      refine ⟨rfl, .tuple #[], by simp [results, Tryd.results93, go_sem], rfl, ?_, ?_⟩
      · unfold fillK
        rw [if_neg (by rw [HF.out]; decide)]
        exact B3.out.setN hi _
      · exact C2.out.trans (LkBox.chg3 (p := ⟨bn, i, none⟩) (.inr (.inr rfl)) _)

set_option maxRecDepth 100000 in
theorem iFill_any_stuck (w : World) (B : Nat) (al : Option Addr) (cl bf cf bc cc bn cn : Nat) (L : List Int) (s : LkS) (i : Nat) (hb : LkBox w B al cl bf cf bc cc bn cn L s) (hi : i < L.length) (hn : L.length ≤ 6) (hf : s.F[i]?.getD false = true) :
    Calls Tryd.prog 93 #[.pointer (some ⟨B, 0, none⟩), .int .i64 i] w fun e w' => e = .panicked [{ v := .iface 120 (.int .i64 i), recovered := false }] ∧ w' = w := by
  have HB := Lib.hid hb; clear hb
  have c1 := HB.out.c1
  have cc0 := HB.out.c0
  have cf0 := (HB.out.atF hi).1
  have gf := (HB.out.atF hi).2
  rw [hf] at cf0
  have HF := Lib.hid hf; clear hf
  go_enter Tryd.func93, Tryd.ntmps93
  go_wp2
  simp [bodyPost]

set_option maxRecDepth 100000 in
theorem iEmpt_any (w : World) (B : Nat) (al : Option Addr) (cl bf cf bc cc bn cn : Nat) (L : List Int) (s : LkS) (i : Nat) (hb : LkBox w B al cl bf cf bc cc bn cn L s) (hi : i < L.length) (hn : L.length ≤ 6) (hf : s.F[i]?.getD false = true) :
    Calls Tryd.prog 94 #[.pointer (some ⟨B, 0, none⟩), .int .i64 i] w fun e w' => e = .returned (.tuple #[]) ∧ LkBox w' B al cl bf cf bc cc bn cn L (emptK L s i) ∧ Chg (fun b => b = bf ∨ b = bc ∨ b = bn) w w' := by
  have HB := Lib.hid hb; clear hb
  have c1 := HB.out.c1
  have cc0 := HB.out.c0
  have cf0 := (HB.out.atF hi).1
  have gf := (HB.out.atF hi).2
  rw [hf] at cf0
  have HF := Lib.hid hf; clear hf
  · go_enter Tryd.func94, Tryd.ntmps94
    go_wp2
    obtain ⟨w1, hw1⟩ : ∃ w1, w1 = w.setCell ⟨bf, i, none⟩ (.bool false) := ⟨_, rfl⟩
    rw [← hw1]
    have B2 := Lib.hid (show LkBox w1 B al cl bf cf bc cc bn cn L ⟨s.F.set i false, s.C, s.N⟩ from hw1 ▸ HB.out.setF hi false)
    have C1 := Lib.hid (show Chg (fun b => b = bf ∨ b = bc ∨ b = bn) w w1 from hw1 ▸ LkBox.chg3 (p := ⟨bf, i, none⟩) (.inl rfl) _)
    have d0 := B2.out.c0
    have d2 := B2.out.c2
    obtain ⟨la, lo, hla, l0, zla⟩ := B2.out.lift.at hi
    obtain rfl : al = some ⟨la, lo, none⟩ := hla
    obtain ⟨e0, f0⟩ := B2.out.atC (i := i) (by omega)
    obtain ⟨x, hx⟩ : ∃ x, x = s.C[i]?.getD 0 := ⟨_, rfl⟩
    obtain ⟨y, hy⟩ : ∃ y, y = L[i]?.getD 0 := ⟨_, rfl⟩
    simp only [← hx] at e0
    simp only [← hy] at l0
    have HX := Lib.hid hx; have HY := Lib.hid hy; clear hx hy
    clear hw1 gf cf0 c1 cc0
    have B3 := Lib.hid (show LkBox (w1.setCell ⟨bc, i, none⟩ (.int .i64 (wrap64 (x + y)))).drew B (some ⟨la, lo, none⟩) cl bf cf bc cc bn cn L ⟨s.F.set i false, s.C.set (i) (wrap64 (s.C[i]?.getD 0 + L[i]?.getD 0)), s.N⟩ from by
      rw [HX.out, HY.out]; exact (B2.out.setC (i := i) (by omega) _).new (New.refl _).drew)
    have C2 := Lib.hid (show Chg (fun b => b = bf ∨ b = bc ∨ b = bn) w (w1.setCell ⟨bc, i, none⟩ (.int .i64 (wrap64 (x + y)))).drew from
      (C1.out.trans (LkBox.chg3 (p := ⟨bc, i, none⟩) (.inr (.inl rfl)) _)).trans (Chg.of_new (New.refl _).drew))
    have B4 := Lib.hid (show LkBox (w1.setCell ⟨bc, i, none⟩ (.int .i64 (wrap64 (x + y)))).drew B (some ⟨la, lo, none⟩) cl bf cf bc cc bn cn L (emptK L s i) from by
      unfold emptK; rw [if_pos HF.out]; exact B3.out)
    clear B2 HX HY HF HB C1 B3
    go_region
    all_goals go_wp2
    all_goals exact ⟨rfl, .tuple #[], by simp [results, Tryd.results94, go_sem], rfl, B4.out, C2.out⟩

set_option maxRecDepth 100000 in
theorem iEmpt_any_stuck (w : World) (B : Nat) (al : Option Addr) (cl bf cf bc cc bn cn : Nat) (L : List Int) (s : LkS) (i : Nat) (hb : LkBox w B al cl bf cf bc cc bn cn L s) (hi : i < L.length) (hn : L.length ≤ 6) (hf : s.F[i]?.getD false = false) :
    Calls Tryd.prog 94 #[.pointer (some ⟨B, 0, none⟩), .int .i64 i] w fun e w' => e = .panicked [{ v := .iface 120 (.int .i64 i), recovered := false }] ∧ w' = w := by
  have HB := Lib.hid hb; clear hb
  have c1 := HB.out.c1
  have cc0 := HB.out.c0
  have cf0 := (HB.out.atF hi).1
  have gf := (HB.out.atF hi).2
  rw [hf] at cf0
  have HF := Lib.hid hf; clear hf
  go_enter Tryd.func94, Tryd.ntmps94
  go_wp2
  simp [bodyPost]
end Go.Proofs.YtmhcnomkkjgidaaDoor
