/- What is drawn of drops and of what is held. -/
import Derived.Test.YtbgbglalibjncaaDrk
namespace Go.Proofs.Ytbgbglalibjncaa
open Go.RowKit Go.IntWalk

theorem RowO.mono {w : World} {lo lo' m : Nat} {v : Value} (h : RowO w lo v m) (k : lo' ≤ lo) : RowO w lo' v m := by
  obtain ⟨ao, n, cap, l, hi, e, hn, o⟩ := h
  exact ⟨ao, n, cap, l, hi, e, hn, o.mono k (Nat.le_refl _)⟩

set_option maxHeartbeats 4000000 in
theorem drops_any (w : World) (c K : Nat) (h : Cur w c K) (hK : K ≤ 999000) :
    Calls Try.prog 26 #[.pointer (some ⟨c, 0, none⟩)] w fun e w' => ∃ x : Int, e = .returned (.int .i64 x) ∧ Cur w' c (K + 10) ∧ Chg (fun b => b = c) w w' := by
  have H := Lib.hid h; clear h
  go_enter Try.func26, Try.ntmps26
  go_wp2_with fail
  refine (pick_any _ c K 500 H.out (by omega) (by omega)).mono ?_
  rintro e w1 ⟨x, rfl, -, hcc, hch⟩
  have C1 := Lib.hid hcc
  have G1 := Lib.hid hch
  clear hcc hch H
  go_wp2_with fail
  refine (pick_any _ c _ 500 C1.out (by omega) (by omega)).mono ?_
  rintro e w2 ⟨y, rfl, -, hcc, hch⟩
  have C2 := Lib.hid hcc
  have G2 := Lib.hid (G1.out.trans hch)
  clear hcc hch C1 G1
  go_wp2_with fail
  refine (pick_any _ c _ 500 C2.out (by omega) (by omega)).mono ?_
  rintro e w3 ⟨z, rfl, -, hcc, hch⟩
  have C3 := Lib.hid hcc
  have G3 := Lib.hid (G2.out.trans hch)
  have zc := hcc.lt
  clear hcc hch C2 G2
  go_wp2_with fail
  refine (among_any _ c _ _ _ _ [0, 1, 2, 6, 30, 100, 997, 1000000, 1000001, -1, x, y, z] (C3.out.new (by repeat (first | with_reducible exact New.refl _ | with_reducible assumption | refine New.drewN ?_ _ | refine New.drew ?_ | refine New.alloc ?_ _ | refine New.setCell ?_ (by first | omega | (simp; omega) | (simp; done)) _ | (refine New.trans ?_ (by assumption))))) (ints_at' _ _ _ rfl (by simp)) (fun b o e => by cases e; omega) (by simp) (by simp) (by omega)).mono ?_
  rintro e w4 ⟨u, rfl, -, hcc, hch⟩
  have C4 := Lib.hid hcc
  have G4 := Lib.hid ((G3.out.alloc _).trans hch)
  clear hcc hch C3 G3
  go_wp2
  go_ret
  exact ⟨u, rfl, C4.out.mono (by omega), G4.out⟩

set_option maxRecDepth 100000 in
set_option maxHeartbeats 8000000 in
theorem holds_any (w : World) (c K : Nat) (h : Cur w c K) (hK : K ≤ 900000) :
    Calls Try.prog 39 #[.pointer (some ⟨c, 0, none⟩)] w fun e w' => ∃ v1 v2 : Value, e = .returned (.tuple #[v1, v2]) ∧ RowO w' w.heap.size v1 ∧ RowO w' w.heap.size v2 2000 ∧ Cur w' c (K + 6000) ∧ Chg (fun b => b = c) w w' := by
  obtain ⟨i0, hi, hz0, hz1, hz2⟩ := info_parts Try.infoInt
  have zc := h.lt
  have H := Lib.hid h; clear h
  go_enter Try.func39, Try.ntmps39
  go_wp2_with fail
  refine (caps_any _ c K H.out (by omega)).mono ?_
  rintro e w1 ⟨v1, rfl, ⟨ao, n, cap, l, hh, rfl, hn, ow⟩, hcc, hch⟩
  have C1 := Lib.hid hcc
  have G1 := Lib.hid hch
  have O1 := Lib.hid ow
  have hm := ow.2.2.1
  clear hcc hch H ow
  obtain ⟨lo, hlo⟩ : ∃ lo, lo = w.heap.size := ⟨_, rfl⟩
  rw [← hlo] at zc O1
  have HL := Lib.hid hlo; clear hlo
  obtain ⟨lo2, hlo2⟩ : ∃ lo, lo = w1.heap.size := ⟨_, rfl⟩
  have z12 : lo ≤ lo2 := by have := G1.out.size; have := HL.out; omega
  have HL2 := Lib.hid hlo2; clear hlo2
  have zc2 : c < lo2 := by omega
  have HB := Lib.hid (fun b (hnn : n ≠ 0) (hb : blkOf ao = some b) => show b < lo2 by have := O1.out.lt hnn hb; have := HL2.out; omega)
  go_wp2
  go_loopw [5, 12] (fun vo vi wr => ∃ (j : Nat) (xs : List Int), vi = .int .i64 (j : Int) ∧ j ≤ n ∧ xs.length = j ∧ Cur wr c (K + 40 + 4 * j) ∧ wr.ownsRow lo2 3 1 vo j (xs.map (Value.int .i64)) ∧ Chg (fun b => b = c) w1 wr) (fun _ vi _ => n - (intOf vi).toNat)
  case atStart => exact ⟨0, [], rfl, Nat.zero_le _, rfl, C1.out.mono (by omega), ⟨rfl, .inl ⟨rfl, rfl⟩⟩, Chg.refl _ _⟩
  case round =>
    obtain ⟨j, xs, rfl, hj, hlen, hcc, hro, hch⟩ := hrel
    have CR := Lib.hid hcc
    have RO := Lib.hid hro
    have GR := Lib.hid hch
    have OR := Lib.hid (O1.out.chg hch (fun b h1 _ => by omega))
    clear hcc hro hch
    by_cases hlt : j < n
    · obtain ⟨b, o, rfl, hc, _⟩ := OR.out.ints.at hlt
      obtain ⟨y, hy⟩ : ∃ y, y = l[j]?.getD 0 := ⟨_, rfl⟩
      rw [← hy] at hc
      clear hy
      have gk : IntKind.i64.wrap ((j : Int) + 1) = (j : Int) + 1 := i64_in _ (by omega)
      have hlt' : (j : Int) < n := by omega
      go_wp2_with fail
      refine (l1In_any _ _ _ _).mono ?_
      rintro e w2 ⟨rfl, rfl⟩
      by_cases hy : inB 1 100 y = true
      · have hyb := inB_iff.1 hy
        have HY := Lib.hid hy; clear hy
        rw [HY.out]
        go_wp2_with fail
        refine (one_any _ c _ 16 CR.out (by omega) (by omega)).mono ?_
        rintro e w3 ⟨b3, rfl, hcc, hch⟩
        have C3 := Lib.hid hcc
        have R3 := Lib.hid (ownsRow_chg RO.out hch (fun b hb => by omega))
        have G3 := Lib.hid (GR.out.trans hch)
        clear hcc hch CR RO GR OR hc
        cases b3 with
        | false =>
          go_wp2_with fail
          refine (pick_any _ c _ y C3.out (by omega) (by omega)).mono ?_
          rintro e w5 ⟨x, rfl, -, hcc, hch⟩
          have C5 := Lib.hid hcc
          have R5 := Lib.hid (ownsRow_chg R3.out hch (fun b hb => by omega))
          have G5 := Lib.hid (G3.out.trans hch)
          clear hcc hch C3 R3 G3
          have zlo : lo2 ≤ w5.heap.size := by have := G5.out.size; have := HL2.out; omega
          go_wp2_with (at_builtin; (refine wpList_append_lies _ (by rfl) (.tmp 23) (.tmp 27) 24 (by rfl) lo2 3 i0 (.int .i64 0) 1 8 Try.underlying24 hi hz0 hz1 hz2 rfl (by decide) _ j _ (by rfl) (ownsRow_new R5.out (by repeat (first | with_reducible exact New.refl _ | with_reducible assumption | refine New.drewN ?_ _ | refine New.drew ?_ | refine New.alloc ?_ _ | refine New.setCell ?_ (by first | omega | (simp; omega) | (simp; done)) _ | (refine New.trans ?_ (by assumption))))) _ _ _ [.int .i64 x] (by rfl) (by rfl) (World.news_of_block (cs := #[.int .i64 x]) (t := 3) (fr := (0, 0)) (heap_alloc_at (by simp))) (by simp [Value.oneCell']) (by omega) (by unfold maxLen; omega) (by omega) (by first | omega | (simp; omega) | (simp; done)) _ rfl ?_; intro g cap2 w7 ho hg hb' hlt'; have G7 := Lib.hid (Chg.grown (G5.out.alloc _) (ownsRow_new R5.out (by repeat (first | with_reducible exact New.refl _ | with_reducible assumption | refine New.drewN ?_ _ | refine New.drew ?_ | refine New.alloc ?_ _ | refine New.setCell ?_ (by first | omega | (simp; omega) | (simp; done)) _ | (refine New.trans ?_ (by assumption))))) (by have := HL2.out; omega) hg); have RO7 := Lib.hid ho; have C7 := Lib.hid (Cur.grown (C5.out.new ((New.refl w5).alloc _)) (ownsRow_new R5.out (by repeat (first | with_reducible exact New.refl _ | with_reducible assumption | refine New.drewN ?_ _ | refine New.drew ?_ | refine New.alloc ?_ _ | refine New.setCell ?_ (by first | omega | (simp; omega) | (simp; done)) _ | (refine New.trans ?_ (by assumption))))) zc2 hg); clear ho hg hb' hlt'))
          go_roundw
          case rel => exact ⟨j + 1, xs ++ [x], by go_num, by omega, by simp [hlen], by have := C7.out; exact this.mono (by omega), by rw [List.map_append]; exact RO7.out, G7.out⟩
          case measure => simp [intOf]; omega
        | true =>
          have zl0 : c < w3.heap.size := C3.out.lt
          go_wp2_with fail
          refine (among_any _ c _ _ _ _ [y, -1, 0] (C3.out.new (by repeat (first | with_reducible exact New.refl _ | with_reducible assumption | refine New.drewN ?_ _ | refine New.drew ?_ | refine New.alloc ?_ _ | refine New.setCell ?_ (by first | omega | (simp; omega) | (simp; done)) _ | (refine New.trans ?_ (by assumption))))) (ints_at' _ _ _ rfl (by simp)) (fun b o e => by cases e; omega) (by simp) (by simp) (by omega)).mono ?_
          rintro e w5 ⟨x, rfl, -, hcc, hch⟩
          have C5 := Lib.hid hcc
          have R5 := Lib.hid (ownsRow_chg (ownsRow_new R3.out ((New.refl w3).alloc _)) hch (fun b hb => by omega))
          have G5 := Lib.hid ((G3.out.alloc _).trans hch)
          clear hcc hch C3 R3 G3
          have zlo : lo2 ≤ w5.heap.size := by have := G5.out.size; have := HL2.out; omega
          go_wp2_with (at_builtin; (refine wpList_append_lies _ (by rfl) (.tmp 29) (.tmp 34) 24 (by rfl) lo2 3 i0 (.int .i64 0) 1 8 Try.underlying24 hi hz0 hz1 hz2 rfl (by decide) _ j _ (by rfl) (ownsRow_new R5.out (by repeat (first | with_reducible exact New.refl _ | with_reducible assumption | refine New.drewN ?_ _ | refine New.drew ?_ | refine New.alloc ?_ _ | refine New.setCell ?_ (by first | omega | (simp; omega) | (simp; done)) _ | (refine New.trans ?_ (by assumption))))) _ _ _ [.int .i64 x] (by rfl) (by rfl) (World.news_of_block (cs := #[.int .i64 x]) (t := 3) (fr := (0, 0)) (heap_alloc_at (by simp))) (by simp [Value.oneCell']) (by omega) (by unfold maxLen; omega) (by omega) (by first | omega | (simp; omega) | (simp; done)) _ rfl ?_; intro g cap2 w7 ho hg hb' hlt'; have G7 := Lib.hid (Chg.grown (G5.out.alloc _) (ownsRow_new R5.out (by repeat (first | with_reducible exact New.refl _ | with_reducible assumption | refine New.drewN ?_ _ | refine New.drew ?_ | refine New.alloc ?_ _ | refine New.setCell ?_ (by first | omega | (simp; omega) | (simp; done)) _ | (refine New.trans ?_ (by assumption))))) (by have := HL2.out; omega) hg); have RO7 := Lib.hid ho; have C7 := Lib.hid (Cur.grown (C5.out.new ((New.refl w5).alloc _)) (ownsRow_new R5.out (by repeat (first | with_reducible exact New.refl _ | with_reducible assumption | refine New.drewN ?_ _ | refine New.drew ?_ | refine New.alloc ?_ _ | refine New.setCell ?_ (by first | omega | (simp; omega) | (simp; done)) _ | (refine New.trans ?_ (by assumption))))) zc2 hg); clear ho hg hb' hlt'))
          go_roundw
          case rel => exact ⟨j + 1, xs ++ [x], by go_num, by omega, by simp [hlen], by have := C7.out; exact this.mono (by omega), by rw [List.map_append]; exact RO7.out, G7.out⟩
          case measure => simp [intOf]; omega
      · have hf : inB 1 100 y = false := by simpa using hy
        rw [hf]
        clear hy hf hc OR
        have zl0 : c < wr.heap.size := CR.out.lt
        go_wp2_with fail
        refine (among_any _ c _ _ _ _ [y, -1, 0] (CR.out.new (by repeat (first | with_reducible exact New.refl _ | with_reducible assumption | refine New.drewN ?_ _ | refine New.drew ?_ | refine New.alloc ?_ _ | refine New.setCell ?_ (by first | omega | (simp; omega) | (simp; done)) _ | (refine New.trans ?_ (by assumption))))) (ints_at' _ _ _ rfl (by simp)) (fun b o e => by cases e; omega) (by simp) (by simp) (by omega)).mono ?_
        rintro e w5 ⟨x, rfl, -, hcc, hch⟩
        have C5 := Lib.hid hcc
        have R5 := Lib.hid (ownsRow_chg (ownsRow_new RO.out ((New.refl wr).alloc _)) hch (fun b hb => by omega))
        have G5 := Lib.hid ((GR.out.alloc _).trans hch)
        clear hcc hch CR RO GR
        have zlo : lo2 ≤ w5.heap.size := by have := G5.out.size; have := HL2.out; omega
        go_wp2_with (at_builtin; (refine wpList_append_lies _ (by rfl) (.tmp 29) (.tmp 34) 24 (by rfl) lo2 3 i0 (.int .i64 0) 1 8 Try.underlying24 hi hz0 hz1 hz2 rfl (by decide) _ j _ (by rfl) (ownsRow_new R5.out (by repeat (first | with_reducible exact New.refl _ | with_reducible assumption | refine New.drewN ?_ _ | refine New.drew ?_ | refine New.alloc ?_ _ | refine New.setCell ?_ (by first | omega | (simp; omega) | (simp; done)) _ | (refine New.trans ?_ (by assumption))))) _ _ _ [.int .i64 x] (by rfl) (by rfl) (World.news_of_block (cs := #[.int .i64 x]) (t := 3) (fr := (0, 0)) (heap_alloc_at (by simp))) (by simp [Value.oneCell']) (by omega) (by unfold maxLen; omega) (by omega) (by first | omega | (simp; omega) | (simp; done)) _ rfl ?_; intro g cap2 w7 ho hg hb' hlt'; have G7 := Lib.hid (Chg.grown (G5.out.alloc _) (ownsRow_new R5.out (by repeat (first | with_reducible exact New.refl _ | with_reducible assumption | refine New.drewN ?_ _ | refine New.drew ?_ | refine New.alloc ?_ _ | refine New.setCell ?_ (by first | omega | (simp; omega) | (simp; done)) _ | (refine New.trans ?_ (by assumption))))) (by have := HL2.out; omega) hg); have RO7 := Lib.hid ho; have C7 := Lib.hid (Cur.grown (C5.out.new ((New.refl w5).alloc _)) (ownsRow_new R5.out (by repeat (first | with_reducible exact New.refl _ | with_reducible assumption | refine New.drewN ?_ _ | refine New.drew ?_ | refine New.alloc ?_ _ | refine New.setCell ?_ (by first | omega | (simp; omega) | (simp; done)) _ | (refine New.trans ?_ (by assumption))))) zc2 hg); clear ho hg hb' hlt'))
        go_roundw
        case rel => exact ⟨j + 1, xs ++ [x], by go_num, by omega, by simp [hlen], by have := C7.out; exact this.mono (by omega), by rw [List.map_append]; exact RO7.out, G7.out⟩
        case measure => simp [intOf]; omega
    · obtain rfl : j = n := by omega
      go_wp2_with fail
      refine (one_any _ c _ 16 CR.out (by omega) (by omega)).mono ?_
      rintro e w2 ⟨b, rfl, hcc, hch⟩
      have C2 := Lib.hid hcc
      have R2 := Lib.hid (ownsRow_chg RO.out hch (fun b hb => by omega))
      have O2 := Lib.hid (OR.out.chg hch (fun b h1 _ => by omega))
      have G2 := Lib.hid (GR.out.trans hch)
      clear hcc hch CR RO GR OR
      have zlo : lo2 ≤ w2.heap.size := by have := G2.out.size; have := HL2.out; omega
      cases b with
      | true =>
        go_wp2_with (at_builtin; (refine wpList_append_lies _ (by rfl) (.tmp 39) (.tmp 40) 24 (by rfl) lo2 3 i0 (.int .i64 0) 1 8 Try.underlying24 hi hz0 hz1 hz2 rfl (by decide) _ j _ (by rfl) (ownsRow_new R2.out (by repeat (first | with_reducible exact New.refl _ | with_reducible assumption | refine New.drewN ?_ _ | refine New.drew ?_ | refine New.alloc ?_ _ | refine New.setCell ?_ (by first | omega | (simp; omega) | (simp; done)) _ | (refine New.trans ?_ (by assumption))))) _ _ _ [.int .i64 0] (by rfl) (by rfl) (World.news_of_block (cs := #[.int .i64 0]) (t := 3) (fr := (0, 0)) (heap_alloc_at (by simp))) (by simp [Value.oneCell']) (by omega) (by unfold maxLen; omega) (by omega) (by first | omega | (simp; omega) | (simp; done)) _ rfl ?_; intro g cap2 w7 ho hg hb' hlt'; have G7 := Lib.hid (Chg.grown (G2.out.alloc _) (ownsRow_new R2.out (by repeat (first | with_reducible exact New.refl _ | with_reducible assumption | refine New.drewN ?_ _ | refine New.drew ?_ | refine New.alloc ?_ _ | refine New.setCell ?_ (by first | omega | (simp; omega) | (simp; done)) _ | (refine New.trans ?_ (by assumption))))) (by have := HL2.out; omega) hg); have RO7 := Lib.hid ho; have C7 := Lib.hid (Cur.grown (C2.out.new ((New.refl w2).alloc _)) (ownsRow_new R2.out (by repeat (first | with_reducible exact New.refl _ | with_reducible assumption | refine New.drewN ?_ _ | refine New.drew ?_ | refine New.alloc ?_ _ | refine New.setCell ?_ (by first | omega | (simp; omega) | (simp; done)) _ | (refine New.trans ?_ (by assumption))))) zc2 hg); have O7 := Lib.hid ((O2.out.new ((New.refl w2).alloc _)).turned fun b hnn hb hlt9 => hg.block b hlt9 (fun e => by have q := (R2.out.lt b e.symm).1; have := HB.out b hnn hb; omega)); clear ho hg hb' hlt'))
        go_ret2
        exact ⟨_, _, rfl, ⟨_, _, _, _, _, rfl, hn, by rw [← HL.out]; exact O7.out⟩, by rw [← HL.out]; exact (rowO_of (l := xs ++ [0]) (m := 2000) (by rw [List.map_append]; exact RO7.out) (by omega)).mono z12, C7.out.mono (by omega), G1.out.trans G7.out⟩
      | false =>
        go_wp2
        go_ret2
        exact ⟨_, _, rfl, ⟨_, _, _, _, _, rfl, hn, by rw [← HL.out]; exact O2.out⟩, by rw [← HL.out]; exact (rowO_of (m := 2000) R2.out (by omega)).mono z12, C2.out.mono (by omega), G1.out.trans G2.out⟩

theorem RowO.ints {w : World} {lo m : Nat} {v : Value} (h : RowO w lo v m) : ∃ ao n cap l, v = .slice ao n cap ∧ Ints w ao n cap l := by
  obtain ⟨ao, n, cap, l, hi, e, _, o⟩ := h
  exact ⟨ao, n, cap, l, e, o.ints⟩

set_option maxRecDepth 100000 in
set_option maxHeartbeats 4000000 in
theorem drawHeld_any (w : World) (ao : Option Addr) (n cap : Nat) (hb : Byts w ao n cap) :
    Calls Try.prog 5 #[.slice ao n cap] w fun e w' => ∃ (oa : Option Addr) (m oc : Nat) (l : List Int) (x : Int), e = .returned (.tuple #[.slice oa m oc, .int .i64 x]) ∧ Ints w' oa m oc l ∧ New w w' := by
  have H := Lib.hid (Cur.fresh' hb (rfl : w.heap.size = w.heap.size)); clear hb
  go_enter Try.func5, Try.ntmps5
  go_wp2_with fail
  refine (caps_any _ w.heap.size 0 H.out (by omega)).mono ?_
  rintro e w1 ⟨v, rfl, hrow, hcc, hch⟩
  have C1 := Lib.hid hcc
  have R1 := Lib.hid hrow
  have G1 := Lib.hid ((Chg.of_new (P := fun b => b = w.heap.size) ((New.refl w).alloc (.cells #[.slice ao n cap, .int .i64 0, .int .u64 0] 43))).trans hch)
  clear hrow hcc hch H
  go_wp2_with fail
  refine (drops_any _ w.heap.size _ C1.out (by omega)).mono ?_
  rintro e w2 ⟨x, rfl, -, hch⟩
  obtain ⟨oa, m, oc, l, rfl, hl⟩ := (R1.out.chg hch (fun b h1 => by simp only [World.size_alloc] at h1; omega)).ints
  have L2 := Lib.hid hl
  have G2 := Lib.hid (G1.out.trans hch)
  clear hl hch C1 R1 G1
  go_wp2
  go_ret2
  exact ⟨oa, m, oc, l, x, rfl, L2.out, Chg.new (New.refl w) G2.out (fun i hi => by omega)⟩

set_option maxRecDepth 100000 in
set_option maxHeartbeats 4000000 in
theorem drawFor_any (w : World) (ao : Option Addr) (n cap : Nat) (hb : Byts w ao n cap) :
    Calls Try.prog 19 #[.slice ao n cap] w fun e w' => ∃ (oa ob : Option Addr) (m1 c1 m2 c2 : Nat) (l1 l2 : List Int), e = .returned (.tuple #[.slice oa m1 c1, .slice ob m2 c2]) ∧ Ints w' oa m1 c1 l1 ∧ Ints w' ob m2 c2 l2 ∧ New w w' := by
  have H := Lib.hid (Cur.fresh' hb (rfl : w.heap.size = w.heap.size)); clear hb
  go_enter Try.func19, Try.ntmps19
  go_wp2_with fail
  refine (holds_any _ w.heap.size 0 H.out (by omega)).mono ?_
  rintro e w1 ⟨v1, v2, rfl, hr1, hr2, -, hch⟩
  obtain ⟨oa, m1, c1, l1, rfl, hl1⟩ := hr1.ints
  obtain ⟨ob, m2, c2, l2, rfl, hl2⟩ := hr2.ints
  have L1 := Lib.hid hl1
  have L2 := Lib.hid hl2
  have G1 := Lib.hid ((Chg.of_new (P := fun b => b = w.heap.size) ((New.refl w).alloc (.cells #[.slice ao n cap, .int .i64 0, .int .u64 0] 43))).trans hch)
  clear hr1 hr2 hl1 hl2 hch H
  go_wp2
  go_ret2
  exact ⟨oa, ob, m1, c1, m2, c2, l1, l2, rfl, L1.out, L2.out, Chg.new (New.refl w) G1.out (fun i hi => by omega)⟩

set_option maxRecDepth 100000 in
set_option maxHeartbeats 4000000 in
theorem drawAdd_any (w : World) (ao : Option Addr) (n cap : Nat) (hb : Byts w ao n cap) :
    Calls Try.prog 21 #[.slice ao n cap] w fun e w' => ∃ (oa ob : Option Addr) (m1 c1 m2 c2 : Nat) (l1 l2 : List Int) (x : Int), e = .returned (.tuple #[.slice oa m1 c1, .slice ob m2 c2, .int .i64 x]) ∧ Ints w' oa m1 c1 l1 ∧ Ints w' ob m2 c2 l2 ∧ New w w' := by
  have H := Lib.hid (Cur.fresh' hb (rfl : w.heap.size = w.heap.size)); clear hb
  go_enter Try.func21, Try.ntmps21
  go_wp2_with fail
  refine (holds_any _ w.heap.size 0 H.out (by omega)).mono ?_
  rintro e w1 ⟨v1, v2, rfl, hr1, hr2, hcc, hch⟩
  have C1 := Lib.hid hcc
  have R1 := Lib.hid hr1
  have R2 := Lib.hid hr2
  obtain ⟨oa, m1, c1, l1, e1, -⟩ := hr1.ints
  obtain ⟨ob, m2, c2, l2, e2, -⟩ := hr2.ints
  subst e1 e2
  have G1 := Lib.hid ((Chg.of_new (P := fun b => b = w.heap.size) ((New.refl w).alloc (.cells #[.slice ao n cap, .int .i64 0, .int .u64 0] 43))).trans hch)
  clear hr1 hr2 hch H hcc
  go_wp2_with fail
  refine (drops_any _ w.heap.size _ C1.out (by omega)).mono ?_
  rintro e w2 ⟨x, rfl, -, hch⟩
  obtain ⟨oa', m1', c1', k1, e1, hl1⟩ := (R1.out.chg hch (fun b h1 => by simp only [World.size_alloc] at h1; omega)).ints
  obtain ⟨ob', m2', c2', k2, e2, hl2⟩ := (R2.out.chg hch (fun b h1 => by simp only [World.size_alloc] at h1; omega)).ints
  cases e1
  cases e2
  have L1 := Lib.hid hl1
  have L2 := Lib.hid hl2
  have G2 := Lib.hid (G1.out.trans hch)
  clear hl1 hl2 hch C1 R1 R2 G1
  go_wp2
  go_ret3
  exact ⟨oa, ob, m1, c1, m2, c2, k1, k2, x, rfl, L1.out, L2.out, Chg.new (New.refl w) G2.out (fun i hi => by omega)⟩
end Go.Proofs.Ytbgbglalibjncaa
