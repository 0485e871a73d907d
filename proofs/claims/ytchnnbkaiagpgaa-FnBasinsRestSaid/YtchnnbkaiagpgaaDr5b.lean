/- More draws of rows of basins. -/
import Derived.Test.YtchnnbkaiagpgaaDr5
namespace Go.Proofs.Ytchnnbkaiagpgaa
open Go.RowKit Go.IntWalk

theorem drFlow_any (w : World) (c K : Nat) (h : Cur w c K) (hK : K ≤ 900000) :
    Calls Try.prog 73 #[.pointer (some ⟨c, 0, none⟩)] w fun e w' => ∃ x : Int, e = .returned (.int .i64 x) ∧ Cur w' c (K + 10) ∧ Chg (fun b => b = c) w w' := by
  have zc := h.lt
  have H := Lib.hid h; clear h
  go_enter Try.func73, Try.ntmps73
  go_wp2_with fail
  refine (one_any _ c K 12 H.out (by omega) (by omega)).mono ?_
  rintro e w1 ⟨b, rfl, hcc, hch⟩
  have C1 := Lib.hid hcc
  have G1 := Lib.hid hch
  have zc1 := hcc.lt
  clear hcc hch H
  cases b with
  | true =>
    go_wp2_with fail
    refine (among_any _ c _ _ _ _ [-1, 0, 1000, 1001] (C1.out.new (by repeat (first | with_reducible exact New.refl _ | with_reducible assumption | refine New.drewN ?_ _ | refine New.drew ?_ | refine New.alloc ?_ _ | refine New.setCell ?_ (by first | omega | (simp; omega) | (simp; done)) _ | (refine New.trans ?_ (by assumption))))) (ints_at' _ _ _ rfl (by decide)) (fun b o e => by cases e; omega) (by decide) (by decide) (by omega)).mono ?_
    rintro e w2 ⟨y, rfl, -, hcc, hch⟩
    have C2 := Lib.hid hcc
    have G2 := Lib.hid ((G1.out.alloc _).trans hch)
    clear hcc hch C1 G1
    go_wp2
    go_ret
    exact ⟨y, rfl, C2.out.mono (by omega), G2.out⟩
  | false =>
    go_wp2_with fail
    refine (pick_any _ c _ 9 C1.out (by omega) (by omega)).mono ?_
    rintro e w2 ⟨y, rfl, -, hcc, hch⟩
    have C2 := Lib.hid hcc
    have G2 := Lib.hid (G1.out.trans hch)
    clear hcc hch C1 G1
    go_wp2
    go_ret
    exact ⟨y, rfl, C2.out.mono (by omega), G2.out⟩

theorem drawIsRow_any (w : World) (ao : Option Addr) (n cap : Nat) (hb : Byts w ao n cap) :
    Calls Try.prog 67 #[.slice ao n cap] w fun e w' => ∃ (oa : Option Addr) (m oc : Nat) (l : List (Int × Int × Int)), e = .returned (.slice oa m oc) ∧ Basins w' oa m oc l ∧ New w w' := by
  have H := Lib.hid (Cur.fresh' hb (rfl : w.heap.size = w.heap.size)); clear hb
  go_enter Try.func67, Try.ntmps67
  go_wp2_with fail
  refine (drRow_any _ w.heap.size 0 4 H.out (by omega) (by decide) (by decide)).mono ?_
  rintro e w1 ⟨v, rfl, hrow, -, hch⟩
  obtain ⟨oa, m, oc, l, rfl, hl⟩ := hrow.reads
  have HL := Lib.hid hl
  have G := Lib.hid ((Chg.of_new (P := fun b => b = w.heap.size) ((New.refl w).alloc (.cells #[.slice ao n cap, .int .i64 0, .int .u64 0] 64))).trans hch)
  clear hl hch hrow H
  go_wp2
  go_ret
  exact ⟨oa, m, oc, l, rfl, HL.out, Chg.new (New.refl w) G.out (fun i hi => by omega)⟩

theorem drawTicksToEmpty_any (w : World) (ao : Option Addr) (n cap : Nat) (hb : Byts w ao n cap) :
    Calls Try.prog 34 #[.slice ao n cap] w fun e w' => ∃ (oa : Option Addr) (m oc : Nat) (l : List (Int × Int × Int)), e = .returned (.slice oa m oc) ∧ Basins w' oa m oc l ∧ New w w' := by
  have HB := Lib.hid hb; clear hb
  go_enter Try.func34, Try.ntmps34
  go_wp2_with fail
  refine (drawIsRow_any _ ao n cap HB.out).mono ?_
  rintro e w1 ⟨oa, m, oc, l, rfl, hl, n1⟩
  have HL := Lib.hid hl
  have N1 := Lib.hid n1
  clear hl n1 HB
  go_wp2
  go_ret
  exact ⟨oa, m, oc, l, rfl, HL.out, N1.out⟩

set_option maxRecDepth 100000 in
set_option maxHeartbeats 4000000 in
theorem drawTickRow_any (w : World) (ao : Option Addr) (n cap : Nat) (hb : Byts w ao n cap) :
    Calls Try.prog 46 #[.slice ao n cap] w fun e w' => ∃ (oa : Option Addr) (m oc : Nat) (l : List (Int × Int × Int)) (x : Int), e = .returned (.tuple #[.slice oa m oc, .int .i64 x]) ∧ Basins w' oa m oc l ∧ New w w' := by
  have H := Lib.hid (Cur.fresh' hb (rfl : w.heap.size = w.heap.size)); clear hb
  go_enter Try.func46, Try.ntmps46
  go_wp2_with fail
  refine (drRow_any _ w.heap.size 0 4 H.out (by omega) (by decide) (by decide)).mono ?_
  rintro e w1 ⟨v, rfl, hrow, hcc, hch⟩
  have C1 := Lib.hid (hcc.mono (K' := 80) (by omega))
  have G := Lib.hid ((Chg.of_new (P := fun b => b = w.heap.size) ((New.refl w).alloc (.cells #[.slice ao n cap, .int .i64 0, .int .u64 0] 64))).trans hch)
  simp only [World.size_alloc] at hrow
  have RR := Lib.hid hrow
  clear hch hrow H hcc
  go_wp2_with fail
  refine (drFlow_any _ w.heap.size 80 C1.out (by omega)).mono ?_
  rintro e w2 ⟨x, rfl, -, hch⟩
  have R2 := RR.out.chg hch (fun b hb => by omega)
  obtain ⟨oa, m, oc, l, rfl, hl⟩ := R2.reads
  have HL := Lib.hid hl
  have G2 := Lib.hid (G.out.trans hch)
  clear hl hch R2 RR C1 G
  go_wp2
  go_ret2
  exact ⟨oa, m, oc, l, x, rfl, HL.out, Chg.new (New.refl w) G2.out (fun i hi => by omega)⟩

theorem drawSteadyHeld_any (w : World) (ao : Option Addr) (n cap : Nat) (hb : Byts w ao n cap) :
    Calls Try.prog 39 #[.slice ao n cap] w fun e w' => ∃ (oa : Option Addr) (m oc : Nat) (l : List (Int × Int × Int)) (x : Int), e = .returned (.tuple #[.slice oa m oc, .int .i64 x]) ∧ Basins w' oa m oc l ∧ New w w' := by
  have HB := Lib.hid hb; clear hb
  go_enter Try.func39, Try.ntmps39
  go_wp2_with fail
  refine (drawTickRow_any _ ao n cap HB.out).mono ?_
  rintro e w1 ⟨oa, m, oc, l, x, rfl, hl, n1⟩
  have HL := Lib.hid hl
  have N1 := Lib.hid n1
  clear hl n1 HB
  go_wp2
  go_ret2
  exact ⟨oa, m, oc, l, x, rfl, HL.out, N1.out⟩

set_option maxRecDepth 100000 in
set_option maxHeartbeats 4000000 in
theorem drawHeldAlong_any (w : World) (ao : Option Addr) (n cap : Nat) (hb : Byts w ao n cap) :
    Calls Try.prog 71 #[.slice ao n cap] w fun e w' => ∃ (oa : Option Addr) (m oc : Nat) (l : List (Int × Int × Int)) (x : Int) (ob : Option Addr) (m2 oc2 : Nat) (xs : List Int), e = .returned (.tuple #[.slice oa m oc, .int .i64 x, .slice ob m2 oc2]) ∧ Basins w' oa m oc l ∧ Ints w' ob m2 oc2 xs ∧ New w w' := by
  have H := Lib.hid (Cur.fresh' hb (rfl : w.heap.size = w.heap.size)); clear hb
  go_enter Try.func71, Try.ntmps71
  go_wp2_with fail
  refine (drRow_any _ w.heap.size 0 4 H.out (by omega) (by decide) (by decide)).mono ?_
  rintro e w1 ⟨v, rfl, hrow, hcc, hch⟩
  have C1 := Lib.hid (hcc.mono (K' := 80) (by omega))
  have G := Lib.hid ((Chg.of_new (P := fun b => b = w.heap.size) ((New.refl w).alloc (.cells #[.slice ao n cap, .int .i64 0, .int .u64 0] 64))).trans hch)
  simp only [World.size_alloc] at hrow
  have RR := Lib.hid hrow
  clear hch hrow H hcc
  go_wp2_with fail
  refine (pick_any _ w.heap.size 80 4 C1.out (by omega) (by omega)).mono ?_
  rintro e w2 ⟨x, rfl, hx, hcc, hch⟩
  have C2 := Lib.hid hcc
  have G2 := Lib.hid (G.out.trans hch)
  have R2 := Lib.hid (RR.out.chg hch (fun b hb => by omega))
  clear hch hcc C1 G RR
  go_wp2_with fail
  refine (pick_any _ w.heap.size 82 9 C2.out (by omega) (by omega)).mono ?_
  rintro e w3 ⟨y, rfl, hy, hcc, hch⟩
  have C3 := Lib.hid hcc
  have G3 := Lib.hid (G2.out.trans hch)
  have R3 := Lib.hid (R2.out.chg hch (fun b hb => by omega))
  clear hch hcc C2 G2 R2
  clear hx hy
  go_wp2_with fail
  refine (drFlows_any _ w.heap.size 84 C3.out (by omega)).mono ?_
  rintro e w4 ⟨v2, rfl, hrow2, -, hch⟩
  have R4 := R3.out.chg hch (fun b hb => by omega)
  obtain ⟨oa, m, oc, l, rfl, hl⟩ := R4.reads
  obtain ⟨ob, m2, oc2, xs, rfl, hx⟩ := hrow2.ints'5
  have HL := Lib.hid hl
  have HX := Lib.hid hx
  have G4 := Lib.hid (G3.out.trans hch)
  clear hl hx hch hrow2 R4 R3 C3 G3
  go_wp2
  refine bodyPost_ret (v := .tuple #[.slice oa m oc, .int .i64 (wrap64 (x - wrap64 (y.tdiv 8))), .slice ob m2 oc2]) (by simp [results, Try.results71, go_sem]) rfl ⟨oa, m, oc, l, wrap64 (x - wrap64 (y.tdiv 8)), ob, m2, oc2, xs, rfl, HL.out, HX.out, Chg.new (New.refl w) G4.out (fun i hi => by omega)⟩

theorem drawLeastSize_any (w : World) (ao : Option Addr) (n cap : Nat) (hb : Byts w ao n cap) :
    Calls Try.prog 42 #[.slice ao n cap] w fun e w' => ∃ (oa : Option Addr) (m oc : Nat) (l : List (Int × Int × Int)) (x : Int) (ob : Option Addr) (m2 oc2 : Nat) (xs : List Int), e = .returned (.tuple #[.slice oa m oc, .int .i64 x, .slice ob m2 oc2]) ∧ Basins w' oa m oc l ∧ Ints w' ob m2 oc2 xs ∧ New w w' := by
  have HB := Lib.hid hb; clear hb
  go_enter Try.func42, Try.ntmps42
  go_wp2_with fail
  refine (drawHeldAlong_any _ ao n cap HB.out).mono ?_
  rintro e w1 ⟨oa, m, oc, l, x, ob, m2, oc2, xs, rfl, hl, hx, n1⟩
  have HL := Lib.hid hl
  have HX := Lib.hid hx
  have N1 := Lib.hid n1
  clear hl hx n1 HB
  go_wp2
  refine bodyPost_ret (v := .tuple #[.slice oa m oc, .int .i64 x, .slice ob m2 oc2]) (by simp [results, Try.results42, go_sem]) rfl ⟨oa, m, oc, l, x, ob, m2, oc2, xs, rfl, HL.out, HX.out, N1.out⟩

end Go.Proofs.Ytchnnbkaiagpgaa
