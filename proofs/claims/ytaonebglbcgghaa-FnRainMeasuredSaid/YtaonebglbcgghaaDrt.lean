/- The draws of rain. -/
import Derived.Test.YtaonebglbcgghaaDrr
import Derived.Test.YtaonebglbcgghaaGaugeS
namespace Go.Proofs.Ytaonebglbcgghaa
open Go.RowKit Go.IntWalk

theorem RowD.ints' {w : World} {lo : Nat} {v : Value} (h : RowD w lo v) : ∃ ao n cap l, v = .slice ao n cap ∧ Ints w ao n cap l := by
  obtain ⟨ao, n, cap, l, e, _, o⟩ := h.ints
  exact ⟨ao, n, cap, l, e, o.ints⟩

set_option maxRecDepth 100000 in
set_option maxHeartbeats 4000000 in
theorem drawTips_any (w : World) (ao : Option Addr) (n cap : Nat) (hb : Byts w ao n cap) :
    Calls Try.prog 5 #[.slice ao n cap] w fun e w' => ∃ (r : Int) (oa : Option Addr) (m oc : Nat) (l : List Int), e = .returned (.tuple #[.int .i64 r, .slice oa m oc]) ∧ Ints w' oa m oc l ∧ New w w' := by
  have H := Lib.hid (Cur.fresh' hb (rfl : w.heap.size = w.heap.size)); clear hb
  go_enter Try.func5, Try.ntmps5
  go_wp2_with fail
  refine (rain_any _ w.heap.size 0 H.out (by omega)).mono ?_
  rintro e w1 ⟨r, v, rfl, hrow, -, hch⟩
  obtain ⟨oa, m, oc, l, rfl, hl⟩ := hrow.ints'
  have HL := Lib.hid hl
  have G := Lib.hid ((Chg.of_new (P := fun b => b = w.heap.size) ((New.refl w).alloc (.cells #[.slice ao n cap, .int .i64 0, .int .u64 0] 41))).trans hch)
  clear hl hch hrow H
  go_wp2
  go_ret2
  exact ⟨r, oa, m, oc, l, rfl, HL.out, Chg.new (New.refl w) G.out (fun i hi => by omega)⟩

set_option maxRecDepth 100000 in
set_option maxHeartbeats 4000000 in
theorem drawRange_any (w : World) (ao : Option Addr) (n cap : Nat) (hb : Byts w ao n cap) :
    Calls Try.prog 28 #[.slice ao n cap] w fun e w' => ∃ (r : Int) (oa : Option Addr) (m oc : Nat) (l : List Int), e = .returned (.tuple #[.int .i64 r, .slice oa m oc]) ∧ Ints w' oa m oc l ∧ New w w' := by
  have H := Lib.hid (Cur.fresh' hb (rfl : w.heap.size = w.heap.size)); clear hb
  go_enter Try.func28, Try.ntmps28
  go_wp2_with fail
  refine (rain_any _ w.heap.size 0 H.out (by omega)).mono ?_
  rintro e w1 ⟨r, v, rfl, hrow, hcc, hch⟩
  obtain ⟨oa, m, oc, l, rfl, -, hl⟩ := hrow.ints
  simp only [World.size_alloc] at hl
  have HL := Lib.hid hl
  have C1 := Lib.hid hcc
  have G := Lib.hid ((Chg.of_new (P := fun b => b = w.heap.size) ((New.refl w).alloc (.cells #[.slice ao n cap, .int .i64 0, .int .u64 0] 41))).trans hch)
  clear hl hch hrow H hcc
  obtain ⟨c, hc⟩ : ∃ c, c = w.heap.size := ⟨_, rfl⟩
  rw [← hc] at C1 G HL ⊢
  have HC := Lib.hid hc; clear hc
  go_wp2_with fail
  refine (sTipsOfRain_any _ r oa m oc l HL.out.ints).mono ?_
  rintro e w2 ⟨ob, m2, oc2, rfl, own, n2⟩
  have zc := C1.out.lt
  have O2 := Lib.hid own
  have C2 := Lib.hid (C1.out.new n2)
  have HL2 := Lib.hid (HL.out.new n2)
  have G2 := Lib.hid (G.out.trans (Chg.of_new n2))
  clear own n2 C1 G HL
  obtain ⟨T, hT⟩ : ∃ T, T = rainB r l := ⟨_, rfl⟩
  rw [← hT]
  clear hT
  cases T with
  | false =>
    go_wp2
    go_ret2
    exact ⟨r, oa, m, oc, l, rfl, HL2.out.ints, Chg.new (New.refl w) G2.out (fun i hi => by have := HC.out; omega)⟩
  | true =>
    go_wp2_with fail
    refine (one_any _ c 40 4 (C2.out.mono (by omega)) (by omega) (by omega)).mono ?_
    rintro e w3 ⟨b, rfl, -, hch⟩
    have G3 := Lib.hid (G2.out.trans hch)
    have O3 := Lib.hid (O2.out.chg hch (fun b h1 h2 => by omega))
    have HL3 := Lib.hid (HL2.out.chg hch (fun b h1 h2 => by omega))
    clear hch O2 HL2 G2 C2
    cases b with
    | true =>
      go_wp2
      go_ret2
      exact ⟨r, oa, m, oc, l, rfl, HL3.out.ints, Chg.new (New.refl w) G3.out (fun i hi => by have := HC.out; omega)⟩
    | false =>
      go_wp2
      go_ret2
      exact ⟨r, ob, m2, oc2, _, rfl, O3.out.ints, Chg.new (New.refl w) G3.out (fun i hi => by have := HC.out; omega)⟩

theorem drawMade_any (w : World) (ao : Option Addr) (n cap : Nat) (hb : Byts w ao n cap) :
    Calls Try.prog 16 #[.slice ao n cap] w fun e w' => ∃ (r : Int) (oa : Option Addr) (m oc : Nat) (l : List Int), e = .returned (.tuple #[.int .i64 r, .slice oa m oc]) ∧ Ints w' oa m oc l ∧ New w w' := by
  have HB := Lib.hid hb; clear hb
  go_enter Try.func16, Try.ntmps16
  go_wp2_with fail
  refine (drawRange_any _ ao n cap HB.out).mono ?_
  rintro e w1 ⟨r, oa, m, oc, l, rfl, hl, n1⟩
  have HL := Lib.hid hl
  have N1 := Lib.hid n1
  clear hl n1 HB
  go_wp2
  go_ret2
  exact ⟨r, oa, m, oc, l, rfl, HL.out, N1.out⟩

set_option maxRecDepth 100000 in
set_option maxHeartbeats 8000000 in
theorem drawTwo_any (w : World) (ao : Option Addr) (n cap : Nat) (hb : Byts w ao n cap) :
    Calls Try.prog 20 #[.slice ao n cap] w fun e w' => ∃ (x y : Int) (oa ob : Option Addr) (m1 c1 m2 c2 : Nat) (l1 l2 : List Int), e = .returned (.tuple #[.int .i64 x, .int .i64 y, .slice oa m1 c1, .slice ob m2 c2]) ∧ Ints w' oa m1 c1 l1 ∧ Ints w' ob m2 c2 l2 ∧ New w w' := by
  have H := Lib.hid (Cur.fresh' hb (rfl : w.heap.size = w.heap.size)); clear hb
  go_enter Try.func20, Try.ntmps20
  go_wp2_with fail
  refine (rain_any _ w.heap.size 0 H.out (by omega)).mono ?_
  rintro e w1 ⟨r, v, rfl, hrow, hcc, hch⟩
  obtain ⟨oa, m, oc, l, rfl, -, hl⟩ := hrow.ints
  simp only [World.size_alloc] at hl
  have HL := Lib.hid hl
  have C1 := Lib.hid hcc
  have G := Lib.hid ((Chg.of_new (P := fun b => b = w.heap.size) ((New.refl w).alloc (.cells #[.slice ao n cap, .int .i64 0, .int .u64 0] 41))).trans hch)
  clear hl hch hrow H hcc
  obtain ⟨c, hc⟩ : ∃ c, c = w.heap.size := ⟨_, rfl⟩
  rw [← hc] at C1 G HL ⊢
  have HC := Lib.hid hc; clear hc
  have zc := C1.out.lt
  go_wp2_with fail
  refine (among_any _ c _ _ _ _ [1, 3, 5, 7, 12, 60, 61, 0] (C1.out.new (by repeat (first | with_reducible exact New.refl _ | with_reducible assumption | refine New.drewN ?_ _ | refine New.drew ?_ | refine New.alloc ?_ _ | refine New.setCell ?_ (by first | omega | (simp; omega) | (simp; done)) _ | (refine New.trans ?_ (by assumption))))) (ints_at' _ _ _ rfl (by decide)) (fun b o e => by cases e; omega) (by decide) (by decide) (by omega)).mono ?_
  rintro e w2 ⟨y, rfl, -, hcc, hch⟩
  have C2 := Lib.hid hcc
  have G2 := Lib.hid ((G.out.alloc _).trans hch)
  have HL2 := Lib.hid ((HL.out.new ((New.refl w1).alloc _)).chg hch (fun b h1 h2 => by omega))
  clear hcc hch C1 G HL zc
  have zc := C2.out.lt
  go_wp2_with fail
  refine (sTipsOfRain_any _ r oa m oc l HL2.out.ints).mono ?_
  rintro e w3 ⟨ob, m2, oc2, rfl, own, n3⟩
  have O3 := Lib.hid (own.mono (Nat.succ_le_of_lt zc) (Nat.le_refl _))
  have C3 := Lib.hid (C2.out.new n3)
  have HL3 := Lib.hid (HL2.out.new n3)
  have G3 := Lib.hid (G2.out.trans (Chg.of_new n3))
  clear own n3 C2 G2 HL2 zc
  have zc := C3.out.lt
  obtain ⟨T, hT⟩ : ∃ T, T = rainB r l := ⟨_, rfl⟩
  rw [← hT]
  clear hT
  go_wp2_with fail
  refine (sTipsOfRain_any _ y oa m oc l HL3.out.ints).mono ?_
  rintro e w4 ⟨od, m4, oc4, rfl, own, n4⟩
  have P4 := Lib.hid (own.mono (Nat.succ_le_of_lt zc) (Nat.le_refl _))
  have O4 := Lib.hid (O3.out.new n4)
  have C4 := Lib.hid (C3.out.new n4)
  have HL4 := Lib.hid (HL3.out.new n4)
  have G4 := Lib.hid (G3.out.trans (Chg.of_new n4))
  clear own n4 C3 G3 HL3 zc O3
  have zc := C4.out.lt
  obtain ⟨U, hU⟩ : ∃ T, T = rainB y l := ⟨_, rfl⟩
  rw [← hU]
  clear hU
  cases T with
  | false =>
    go_wp2_with fail
    refine (rain_any _ c _ C4.out (by omega)).mono ?_
    rintro e w5 ⟨r5, v5, rfl, hrow, -, hch⟩
    obtain ⟨oe, m5, oc5, l5, rfl, -, hl⟩ := hrow.ints
    have L5 := Lib.hid hl
    have HL5 := Lib.hid (HL4.out.chg hch (fun b h1 h2 => by omega))
    have G5 := Lib.hid (G4.out.trans hch)
    clear hl hrow hch
    go_wp2
    refine bodyPost_ret (v := .tuple #[.int .i64 r, .int .i64 y, .slice oa m oc, .slice oe m5 oc5]) (by simp [results, Try.results20, go_sem]) rfl ⟨r, y, oa, oe, m, oc, m5, oc5, l, l5, rfl, HL5.out.ints, L5.out.ints, Chg.new (New.refl w) G5.out (fun i hi => by have := HC.out; omega)⟩
  | true =>
    cases U with
    | false =>
      go_wp2_with fail
      refine (rain_any _ c _ C4.out (by omega)).mono ?_
      rintro e w5 ⟨r5, v5, rfl, hrow, -, hch⟩
      obtain ⟨oe, m5, oc5, l5, rfl, -, hl⟩ := hrow.ints
      have L5 := Lib.hid hl
      have HL5 := Lib.hid (HL4.out.chg hch (fun b h1 h2 => by omega))
      have G5 := Lib.hid (G4.out.trans hch)
      clear hl hrow hch
      go_wp2
      refine bodyPost_ret (v := .tuple #[.int .i64 r, .int .i64 y, .slice oa m oc, .slice oe m5 oc5]) (by simp [results, Try.results20, go_sem]) rfl ⟨r, y, oa, oe, m, oc, m5, oc5, l, l5, rfl, HL5.out.ints, L5.out.ints, Chg.new (New.refl w) G5.out (fun i hi => by have := HC.out; omega)⟩
    | true =>
      go_wp2_with fail
      refine (one_any _ c _ 5 C4.out (by omega) (by omega)).mono ?_
      rintro e w5 ⟨b, rfl, hcc, hch⟩
      have C5 := Lib.hid hcc
      have HL5 := Lib.hid (HL4.out.chg hch (fun b h1 h2 => by omega))
      have O5 := Lib.hid (O4.out.chg hch (fun b h1 h2 => by omega))
      have P5 := Lib.hid (P4.out.chg hch (fun b h1 h2 => by omega))
      have G5 := Lib.hid (G4.out.trans hch)
      clear hcc hch C4 HL4 O4 P4 G4 zc
      have zc := C5.out.lt
      cases b with
      | true =>
        go_wp2_with fail
        refine (rain_any _ c _ C5.out (by omega)).mono ?_
        rintro e w6 ⟨r5, v5, rfl, hrow, -, hch⟩
        obtain ⟨oe, m5, oc5, l5, rfl, -, hl⟩ := hrow.ints
        have L5 := Lib.hid hl
        have HL6 := Lib.hid (HL5.out.chg hch (fun b h1 h2 => by omega))
        have G6 := Lib.hid (G5.out.trans hch)
        clear hl hrow hch
        go_wp2
        refine bodyPost_ret (v := .tuple #[.int .i64 r, .int .i64 y, .slice oa m oc, .slice oe m5 oc5]) (by simp [results, Try.results20, go_sem]) rfl ⟨r, y, oa, oe, m, oc, m5, oc5, l, l5, rfl, HL6.out.ints, L5.out.ints, Chg.new (New.refl w) G6.out (fun i hi => by have := HC.out; omega)⟩
      | false =>
        go_wp2
        refine bodyPost_ret (v := .tuple #[.int .i64 r, .int .i64 y, .slice ob m2 oc2, .slice od m4 oc4]) (by simp [results, Try.results20, go_sem]) rfl ⟨r, y, ob, od, m2, oc2, m4, oc4, _, _, rfl, O5.out.ints, P5.out.ints, Chg.new (New.refl w) G5.out (fun i hi => by have := HC.out; omega)⟩
end Go.Proofs.Ytaonebglbcgghaa
