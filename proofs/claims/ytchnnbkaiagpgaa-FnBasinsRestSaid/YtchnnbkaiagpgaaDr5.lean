/- What is drawn of rows of basins and flows. -/
import Derived.Test.YtchnnbkaiagpgaaDrr
import Derived.Test.YtchnnbkaiagpgaaRowBasin
namespace Go.Proofs.Ytchnnbkaiagpgaa
open Go.RowKit Go.IntWalk

theorem ownsRow_chg' {P : Nat → Prop} {w w' : World} {lo n s : Nat} {t : TypeId} {v : Value} {xs : List Value} (h : w.ownsRow lo t s v n xs) (k : Chg P w w') (hP : ∀ b, lo ≤ b → ¬ P b) : w'.ownsRow lo t s v n xs :=
  ownsRow_block h fun g e => k.block g (h.lt g e).2 (hP g (h.lt g e).1)
theorem Chg.put5 {P : Nat → Prop} {w w' : World} (h : Chg P w w') {p : Addr} (hp : w.heap.size ≤ p.block) (u : Value) : Chg P w (w'.setCell p u) :=
  have s := Chg.setCell (w := w') (p := p) u
  ⟨s.os.trans h.os, s.tape.trans h.tape, s.output.trans h.output, Nat.le_trans h.size s.size, fun k hk hP => (s.block k (Nat.lt_of_lt_of_le hk h.size) (by omega)).trans (h.block k hk hP)⟩
theorem Cur.store5 {w : World} {c K : Nat} (h : Cur w c K) {p : Addr} (hp : c < p.block) (u : Value) : Cur (w.setCell p u) c K :=
  h.kept fun i hi => (Chg.setCell (w := w) (p := p) u).block i (Nat.lt_of_le_of_lt hi h.lt) (by omega)
/-- A row of basins that a draw gives. -/
def RowBo (w : World) (lo : Nat) (v : Value) : Prop := ∃ (ao : Option Addr) (n cap : Nat) (l : List (Int × Int × Int)) (hi : Nat), v = .slice ao n cap ∧ n ≤ 7 ∧ OwnBasin w lo hi ao n cap l
theorem RowBo.of {w : World} {lo n : Nat} {v : Value} {l : List (Int × Int × Int)} (h : w.ownsRow lo 48 3 v n (flatBasin l)) (hn : n ≤ 7) : RowBo w lo v := by
  obtain ⟨oa, oc, e, o⟩ := OwnBasin.of_row h
  exact ⟨oa, n, oc, l, _, e, hn, o⟩
theorem RowBo.chg {P : Nat → Prop} {w w' : World} {lo : Nat} {v : Value} (h : RowBo w lo v) (k : Chg P w w') (hP : ∀ b, lo ≤ b → ¬ P b) : RowBo w' lo v := by
  obtain ⟨ao, n, cap, l, hi, e, hn, o⟩ := h
  exact ⟨ao, n, cap, l, hi, e, hn, o.chg k fun b h1 _ => hP b h1⟩
theorem RowBo.reads {w : World} {lo : Nat} {v : Value} (h : RowBo w lo v) : ∃ ao n cap l, v = .slice ao n cap ∧ Basins w ao n cap l := by
  obtain ⟨ao, n, cap, l, hi, e, hn, o⟩ := h
  exact ⟨ao, n, cap, l, e, o.reads⟩
/-- A number stored into the first basin of a row of the call's own. -/
theorem OwnBasin.put {w : World} {lo hi : Nat} {ao : Option Addr} {n cap : Nat} {l : List (Int × Int × Int)} (h : OwnBasin w lo hi ao n cap l) (hn : 0 < n) :
    ∃ b, ao = some ⟨b, 0, none⟩ ∧ lo ≤ b ∧ b < hi ∧ b < w.heap.size ∧ (w.cell? ⟨b, 0, none⟩ = some (.int .i64 (l[0]?.getD (0, 0, 0)).1) ∧ w.cell? ⟨b, 1, none⟩ = some (.int .i64 (l[0]?.getD (0, 0, 0)).2.1) ∧ w.cell? ⟨b, 2, none⟩ = some (.int .i64 (l[0]?.getD (0, 0, 0)).2.2)) ∧ (∀ i, w.frozen? ⟨b, i, none⟩ = false) ∧
      ∀ i, i < 3 → ∀ y : Int, ∃ l', OwnBasin (w.setCell ⟨b, i, none⟩ (.int .i64 y)) lo hi ao n cap l' := by
  obtain ⟨h1, h2, h3, h4⟩ := h
  rcases h4 with h4 | ⟨b, f, rfl, hl, hh, hr, hf⟩
  · omega
  · obtain ⟨g0, g1, g2⟩ := hf 0 hn
    have c0 := hr.cell (i := 0) (by omega)
    have c1 := hr.cell (i := 1) (by omega)
    have c2 := hr.cell (i := 2) (by omega)
    refine ⟨b, rfl, hl, hh, hr.lt, ⟨by rw [c0]; exact congrArg some g0, by rw [c1]; exact congrArg some g1, by rw [c2]; exact congrArg some g2⟩, fun i => hr.frozen i, fun i hi3 y => ?_⟩
    have hl0 : 0 < l.length := by omega
    refine ⟨l.set 0 (if i = 0 then (y, (l[0]?.getD (0, 0, 0)).2) else if i = 1 then ((l[0]?.getD (0, 0, 0)).1, y, (l[0]?.getD (0, 0, 0)).2.2) else ((l[0]?.getD (0, 0, 0)).1, (l[0]?.getD (0, 0, 0)).2.1, y)), by rw [List.length_set]; exact h1, h2, h3, .inr ⟨b, _, rfl, hl, hh, hr.set i _, fun j hj => ?_⟩⟩
    by_cases e : j = 0
    · subst e
      rw [List.getElem?_set_self hl0]
      obtain rfl | rfl | rfl : i = 0 ∨ i = 1 ∨ i = 2 := by omega
      · simpa using ⟨g1, g2⟩
      · simpa using ⟨g0, g2⟩
      · simpa using ⟨g0, g1⟩
    · rw [List.getElem?_set_ne (by omega), if_neg (by omega), if_neg (by omega), if_neg (by omega)]
      exact hf j hj

set_option maxRecDepth 100000 in
set_option maxHeartbeats 8000000 in
theorem drFlows_any (w : World) (c K : Nat) (h : Cur w c K) (hK : K ≤ 900000) :
    Calls Try.prog 49 #[.pointer (some ⟨c, 0, none⟩)] w fun e w' => ∃ v : Value, e = .returned v ∧ RowD w' w.heap.size v ∧ Cur w' c (K + 80) ∧ Chg (fun b => b = c) w w' := by
  obtain ⟨i0, hi, hz0, hz1, hz2⟩ := info_parts Try.infoInt
  have zc := h.lt
  have H := Lib.hid h; clear h
  go_enter Try.func49, Try.ntmps49
  go_wp2_with fail
  refine (pick_any _ c K 9 H.out (by omega) (by omega)).mono ?_
  rintro e w1 ⟨r0, rfl, hr0, hcc, hch⟩
  have C1 := Lib.hid hcc
  have G1 := Lib.hid hch
  clear hcc hch H
  have g1 : IntKind.i64.wrap (1 + r0) = 1 + r0 := i64_in _ (by omega)
  obtain ⟨high, hhigh⟩ : ∃ x, x = 1 + r0 := ⟨_, rfl⟩
  rw [← hhigh] at g1
  have hb9 : 1 ≤ high ∧ high ≤ 9 := by omega
  have g1' : IntKind.i64.wrap (1 + r0) = high := by rw [← hhigh]; exact g1
  clear hhigh g1 hr0
  go_wp2_with fail
  refine (pick_any _ c (K + 2) 12 C1.out (by omega) (by omega)).mono ?_
  rintro e w2 ⟨k0, rfl, hk0, hcc, hch⟩
  have C2 := Lib.hid hcc
  have G2 := Lib.hid (G1.out.trans hch)
  clear hcc hch C1 G1 g1'
  obtain ⟨lo, hlo⟩ : ∃ lo, lo = w.heap.size := ⟨_, rfl⟩
  rw [← hlo] at zc
  have HL := Lib.hid hlo; clear hlo
  go_wp2
  go_loopw [3, 5] (fun vo vk wr => ∃ (j k : Nat) (xs : List Int), vk = .int .i64 (k : Int) ∧ k + j ≤ 12 ∧ xs.length = j ∧ Cur wr c (K + 4 + 4 * j) ∧ wr.ownsRow lo 3 1 vo j (xs.map (Value.int .i64)) ∧ Chg (fun b => b = c) w wr) (fun _ vk _ => (intOf vk).toNat)
  case atStart =>
    obtain ⟨k, rfl⟩ := Int.eq_ofNat_of_zero_le hk0.1
    exact ⟨0, k, [], rfl, by omega, rfl, C2.out, ⟨rfl, .inl ⟨rfl, rfl⟩⟩, G2.out⟩
  case round =>
    obtain ⟨j, k, xs, rfl, hkj, hlen, hcc, hro, hch⟩ := hrel
    have CR := Lib.hid hcc
    have RO := Lib.hid hro
    have GR := Lib.hid hch
    clear hcc hro hch
    by_cases hk : 0 < k
    · have hkk : (0 : Int) < k := by omega
      have gk : IntKind.i64.wrap ((k : Int) - 1) = (k : Int) - 1 := i64_in _ (by omega)
      go_wp2_with fail
      refine (one_any _ c (K + 4 + 4 * j) 3 CR.out (by omega) (by omega)).mono ?_
      rintro e w3 ⟨b3, rfl, hcc, hch⟩
      have C3 := Lib.hid hcc
      have R3 := Lib.hid (ownsRow_chg RO.out hch (fun b hb => by omega))
      have G3 := Lib.hid (GR.out.trans hch)
      clear hcc hch CR RO GR
      have zlo : lo ≤ w3.heap.size := by have := G3.out.size; have := HL.out; omega
      cases b3 with
      | true =>
        go_wp2_with (at_builtin; (refine wpList_append_lies _ (by rfl) (.tmp 23) (.tmp 25) 25 (by rfl) lo 3 i0 (.int .i64 0) 1 8 Try.underlying25 hi hz0 hz1 hz2 rfl (by decide) _ j _ (by rfl) (ownsRow_new R3.out (by repeat (first | with_reducible exact New.refl _ | with_reducible assumption | refine New.drewN ?_ _ | refine New.drew ?_ | refine New.alloc ?_ _ | refine New.setCell ?_ (by first | omega | (simp; omega) | (simp; done)) _ | (refine New.trans ?_ (by assumption))))) _ _ _ [.int .i64 0] (by rfl) (by rfl) (World.news_of_block (cs := #[.int .i64 0]) (t := 3) (fr := (0, 0)) (heap_alloc_at (by simp))) (by simp [Value.oneCell']) (by omega) (by unfold maxLen; omega) (by omega) (by first | omega | (simp; omega) | (simp; done)) _ rfl ?_; intro g cap w7 ho hg hb' hlt'; have G7 := Lib.hid (Chg.grown (G3.out.alloc _) (ownsRow_new R3.out (by repeat (first | with_reducible exact New.refl _ | with_reducible assumption | refine New.drewN ?_ _ | refine New.drew ?_ | refine New.alloc ?_ _ | refine New.setCell ?_ (by first | omega | (simp; omega) | (simp; done)) _ | (refine New.trans ?_ (by assumption))))) (by have := HL.out; omega) hg); have RO7 := Lib.hid ho; have C7 := Lib.hid (Cur.grown (C3.out.new ((New.refl w3).alloc _)) (ownsRow_new R3.out (by repeat (first | with_reducible exact New.refl _ | with_reducible assumption | refine New.drewN ?_ _ | refine New.drew ?_ | refine New.alloc ?_ _ | refine New.setCell ?_ (by first | omega | (simp; omega) | (simp; done)) _ | (refine New.trans ?_ (by assumption))))) zc hg); clear ho hg hb' hlt'))
        go_roundw
        case rel => exact ⟨j + 1, k - 1, xs ++ [0], by go_num, by omega, by simp [hlen], by have := C7.out; exact this.mono (by omega), by rw [List.map_append]; exact RO7.out, G7.out⟩
        case measure => simp [intOf]; omega
      | false =>
        have gh : IntKind.i64.wrap (high + 1) = high + 1 := i64_in _ (by omega)
        go_wp2_with fail
        refine (pick_any _ c _ (high + 1) C3.out (by omega) (by omega)).mono ?_
        rintro e w4 ⟨x, rfl, -, hcc, hch⟩
        have C4 := Lib.hid hcc
        have R4 := Lib.hid (ownsRow_chg R3.out hch (fun b hb => by omega))
        have G4 := Lib.hid (G3.out.trans hch)
        clear hcc hch C3 R3 G3 zlo
        have zlo : lo ≤ w4.heap.size := by have := G4.out.size; have := HL.out; omega
        go_wp2_with (at_builtin; (refine wpList_append_lies _ (by rfl) (.tmp 23) (.tmp 25) 25 (by rfl) lo 3 i0 (.int .i64 0) 1 8 Try.underlying25 hi hz0 hz1 hz2 rfl (by decide) _ j _ (by rfl) (ownsRow_new R4.out (by repeat (first | with_reducible exact New.refl _ | with_reducible assumption | refine New.drewN ?_ _ | refine New.drew ?_ | refine New.alloc ?_ _ | refine New.setCell ?_ (by first | omega | (simp; omega) | (simp; done)) _ | (refine New.trans ?_ (by assumption))))) _ _ _ [.int .i64 x] (by rfl) (by rfl) (World.news_of_block (cs := #[.int .i64 x]) (t := 3) (fr := (0, 0)) (heap_alloc_at (by simp))) (by simp [Value.oneCell']) (by omega) (by unfold maxLen; omega) (by omega) (by first | omega | (simp; omega) | (simp; done)) _ rfl ?_; intro g cap w7 ho hg hb' hlt'; have G7 := Lib.hid (Chg.grown (G4.out.alloc _) (ownsRow_new R4.out (by repeat (first | with_reducible exact New.refl _ | with_reducible assumption | refine New.drewN ?_ _ | refine New.drew ?_ | refine New.alloc ?_ _ | refine New.setCell ?_ (by first | omega | (simp; omega) | (simp; done)) _ | (refine New.trans ?_ (by assumption))))) (by have := HL.out; omega) hg); have RO7 := Lib.hid ho; have C7 := Lib.hid (Cur.grown (C4.out.new ((New.refl w4).alloc _)) (ownsRow_new R4.out (by repeat (first | with_reducible exact New.refl _ | with_reducible assumption | refine New.drewN ?_ _ | refine New.drew ?_ | refine New.alloc ?_ _ | refine New.setCell ?_ (by first | omega | (simp; omega) | (simp; done)) _ | (refine New.trans ?_ (by assumption))))) zc hg); clear ho hg hb' hlt'))
        go_roundw
        case rel => exact ⟨j + 1, k - 1, xs ++ [x], by go_num, by omega, by simp [hlen], by have := C7.out; exact this.mono (by omega), by rw [List.map_append]; exact RO7.out, G7.out⟩
        case measure => simp [intOf]; omega
    · obtain rfl : k = 0 := by omega
      go_wp2_with fail
      refine (pick_any _ c (K + 4 + 4 * j) 16 CR.out (by omega) (by omega)).mono ?_
      rintro e w3 ⟨z, rfl, -, hcc, hch⟩
      have C3 := Lib.hid hcc
      have R3 := Lib.hid (ownsRow_chg RO.out hch (fun b hb => by omega))
      have G3 := Lib.hid (GR.out.trans hch)
      clear hcc hch CR RO GR
      have zlo : lo ≤ w3.heap.size := by have := G3.out.size; have := HL.out; omega
      by_cases e0 : z = 0
      · subst e0
        go_wp2_with fail
        refine (among_any _ c _ _ _ _ [-1, 1000, 1001, 4611686018427387904] (C3.out.new (by repeat (first | with_reducible exact New.refl _ | with_reducible assumption | refine New.drewN ?_ _ | refine New.drew ?_ | refine New.alloc ?_ _ | refine New.setCell ?_ (by first | omega | (simp; omega) | (simp; done)) _ | (refine New.trans ?_ (by assumption))))) (ints_at' _ _ _ rfl (by decide)) (fun b o e => by cases e; omega) (by decide) (by decide) (by omega)).mono ?_
        rintro e w4 ⟨y, rfl, -, hcc, hch⟩
        have C4 := Lib.hid hcc
        have R4 := Lib.hid (ownsRow_chg (ownsRow_new R3.out ((New.refl w3).alloc _)) hch (fun b hb => by omega))
        have G4 := Lib.hid ((G3.out.alloc _).trans hch)
        clear hcc hch C3 R3 G3
        have zlo4 : lo ≤ w4.heap.size := by have := G4.out.size; have := HL.out; omega
        go_wp2_with (at_builtin; (refine wpList_append_lies _ (by rfl) (.tmp 31) (.tmp 35) 25 (by rfl) lo 3 i0 (.int .i64 0) 1 8 Try.underlying25 hi hz0 hz1 hz2 rfl (by decide) _ j _ (by rfl) (ownsRow_new R4.out (by repeat (first | with_reducible exact New.refl _ | with_reducible assumption | refine New.drewN ?_ _ | refine New.drew ?_ | refine New.alloc ?_ _ | refine New.setCell ?_ (by first | omega | (simp; omega) | (simp; done)) _ | (refine New.trans ?_ (by assumption))))) _ _ _ [.int .i64 y] (by rfl) (by rfl) (World.news_of_block (cs := #[.int .i64 y]) (t := 3) (fr := (0, 0)) (heap_alloc_at (by simp))) (by simp [Value.oneCell']) (by omega) (by unfold maxLen; omega) (by omega) (by first | omega | (simp; omega) | (simp; done)) _ rfl ?_; intro g cap w7 ho hg hb' hlt'; have G7 := Lib.hid (Chg.grown (G4.out.alloc _) (ownsRow_new R4.out (by repeat (first | with_reducible exact New.refl _ | with_reducible assumption | refine New.drewN ?_ _ | refine New.drew ?_ | refine New.alloc ?_ _ | refine New.setCell ?_ (by first | omega | (simp; omega) | (simp; done)) _ | (refine New.trans ?_ (by assumption))))) (by have := HL.out; omega) hg); have RO7 := Lib.hid ho; have C7 := Lib.hid (Cur.grown (C4.out.new ((New.refl w4).alloc _)) (ownsRow_new R4.out (by repeat (first | with_reducible exact New.refl _ | with_reducible assumption | refine New.drewN ?_ _ | refine New.drew ?_ | refine New.alloc ?_ _ | refine New.setCell ?_ (by first | omega | (simp; omega) | (simp; done)) _ | (refine New.trans ?_ (by assumption))))) zc hg); clear ho hg hb' hlt'))
        go_ret
        exact ⟨_, rfl, ⟨j + 1, xs ++ [y], by omega, by rw [← HL.out, List.map_append]; exact RO7.out⟩, C7.out.mono (by omega), G7.out⟩
      · by_cases e1 : z = 1
        · subst e1
          go_wp2_with fail
          refine (pick_any _ c _ 2 C3.out (by omega) (by omega)).mono ?_
          rintro e w4 ⟨y, rfl, hy, hcc, hch⟩
          have C4 := Lib.hid hcc
          have G4 := Lib.hid (G3.out.trans hch)
          clear hcc hch C3 R3 G3
          have zlo4 : lo ≤ w4.heap.size := by have := G4.out.size; have := HL.out; omega
          obtain ⟨m, rfl⟩ := Int.eq_ofNat_of_zero_le hy.1
          have gm : IntKind.i64.wrap (60 + (m : Int)) = ((60 + m : Nat) : Int) := by rw [i64_in _ (by omega)]; push_cast; rfl
          have hmk := run_makeD (n := 60 + m) (by omega) w4
          have RR := Lib.hid (made_row w4 (60 + m) (lo := lo) zlo4 (by omega))
          clear hy
          obtain ⟨nn, hnn⟩ : ∃ nn, nn = 60 + m := ⟨_, rfl⟩
          rw [← hnn] at gm hmk RR
          clear hnn
          go_wp2
          go_ret
          exact ⟨_, rfl, by rw [← HL.out]; have q := RR.out; rw [Nat.mul_one] at q; exact q, (C4.out.new ((New.refl _).alloc _)).mono (by omega), G4.out.alloc _⟩
        · go_wp2
          go_ret
          exact ⟨_, rfl, ⟨j, xs, by omega, by rw [← HL.out]; exact R3.out⟩, C3.out.mono (by omega), G3.out⟩

set_option maxRecDepth 100000 in
set_option maxHeartbeats 8000000 in
theorem drRow_any (w : World) (c K : Nat) (mo : Int) (h : Cur w c K) (hK : K ≤ 900000) (hm0 : 1 ≤ mo) (hm1 : mo ≤ 4) :
    Calls Try.prog 48 #[.pointer (some ⟨c, 0, none⟩), .int .i64 mo] w fun e w' => ∃ v : Value, e = .returned v ∧ RowBo w' w.heap.size v ∧ Cur w' c (K + 80) ∧ Chg (fun b => b = c) w w' := by
  obtain ⟨i1, hj, hy0, hy1, hy2⟩ := info_parts Try.infoRowBasin
  have zc := h.lt
  have H := Lib.hid h; clear h
  go_enter Try.func48, Try.ntmps48
  go_wp2_with fail
  refine (pick_any _ c K mo H.out (by omega) (by omega)).mono ?_
  rintro e w1 ⟨r0, rfl, hr0, hcc, hch⟩
  have C1 := Lib.hid hcc
  have G1 := Lib.hid hch
  clear hcc hch H
  obtain ⟨lo, hlo⟩ : ∃ lo, lo = w.heap.size := ⟨_, rfl⟩
  rw [← hlo] at zc
  have HL := Lib.hid hlo; clear hlo
  obtain ⟨k0, hk0⟩ : ∃ k : Nat, 1 + r0 = (k : Int) ∧ 1 ≤ k ∧ k ≤ 4 := ⟨(1 + r0).toNat, by omega, by omega, by omega⟩
  have g1 : IntKind.i64.wrap (1 + r0) = (k0 : Int) := by rw [i64_in _ (by omega)]; exact hk0.1
  have HK := Lib.hid hk0; clear hk0 hr0
  go_wp2
  go_loopw [5, 6] (fun vo vk wr => ∃ (j k : Nat) (xs : List (Int × Int × Int)), vk = .int .i64 (k : Int) ∧ k + j = k0 ∧ xs.length = j ∧ (∀ i, i < j → 1 ≤ (xs[i]?.getD (0, 0, 0)).1 ∧ (xs[i]?.getD (0, 0, 0)).1 ≤ 12) ∧ Cur wr c (K + 2 + 6 * j) ∧ wr.ownsRow lo 48 3 vo j (flatBasin xs) ∧ Chg (fun b => b = c) w wr) (fun _ vk _ => (intOf vk).toNat)
  case atStart => exact ⟨0, k0, [], rfl, by omega, rfl, fun i hi => absurd hi (by omega), C1.out, ⟨rfl, .inl ⟨rfl, rfl⟩⟩, G1.out⟩
  case round =>
    obtain ⟨j, k, xs, rfl, hkj, hlen, hbd, hcc, hro, hch⟩ := hrel
    have CR := Lib.hid hcc
    have RO := Lib.hid hro
    have GR := Lib.hid hch
    have BD := Lib.hid hbd
    have hk4 := HK.out.2.2
    have hk1 := HK.out.2.1
    clear hcc hro hch hbd
    by_cases hk : 0 < k
    · have hkk : (0 : Int) < k := by omega
      have gk : IntKind.i64.wrap ((k : Int) - 1) = (k : Int) - 1 := i64_in _ (by omega)
      go_wp2_with fail
      refine (pick_any _ c _ 12 CR.out (by omega) (by omega)).mono ?_
      rintro e w3 ⟨s0, rfl, hs0, hcc, hch⟩
      have C3 := Lib.hid hcc
      have R3 := Lib.hid (ownsRow_chg' RO.out hch (fun b hb => by omega))
      have G3 := Lib.hid (GR.out.trans hch)
      clear hcc hch CR RO GR
      obtain ⟨sz, hsz⟩ : ∃ x, x = 1 + s0 := ⟨_, rfl⟩
      have g2 : IntKind.i64.wrap (1 + s0) = sz := by rw [hsz]; exact i64_in _ (by omega)
      have sb : 1 ≤ sz ∧ sz ≤ 12 := by omega
      have g3 : IntKind.i64.wrap (sz + 1) = sz + 1 := i64_in _ (by omega)
      clear hsz hs0
      go_wp2_with fail
      refine (pick_any _ c _ 5 C3.out (by omega) (by omega)).mono ?_
      rintro e w4 ⟨ou, rfl, -, hcc, hch⟩
      have C4 := Lib.hid hcc
      have R4 := Lib.hid (ownsRow_chg' R3.out hch (fun b hb => by omega))
      have G4 := Lib.hid (G3.out.trans hch)
      clear hcc hch C3 R3 G3
      go_wp2_with fail
      refine (pick_any _ c _ (sz + 1) C4.out (by omega) (by omega)).mono ?_
      rintro e w5 ⟨hd, rfl, -, hcc, hch⟩
      have C5 := Lib.hid hcc
      have R5 := Lib.hid (ownsRow_chg' R4.out hch (fun b hb => by omega))
      have G5 := Lib.hid (G4.out.trans hch)
      clear hcc hch C4 R4 G4
      have zlo : lo ≤ w5.heap.size := by have := G5.out.size; have := HL.out; omega
      go_wp2_with (at_builtin; (refine wpList_append_lies _ (by rfl) (.tmp 19) (.tmp 28) 24 (by rfl) lo 48 i1 _ 3 24 Try.underlying24 hj hy0 hy1 hy2 rfl (by decide) _ j _ (by rfl) (ownsRow_new R5.out (by repeat (first | with_reducible exact New.refl _ | with_reducible assumption | refine New.drewN ?_ _ | refine New.drew ?_ | refine New.alloc ?_ _ | refine New.setCell ?_ (by first | omega | (simp; omega) | (simp; done)) _ | (refine New.trans ?_ (by assumption))))) _ _ _ [.int .i64 sz, .int .i64 ou, .int .i64 hd] (by rfl) (by rfl) (World.news_of_block (cs := #[.int .i64 sz, .int .i64 ou, .int .i64 hd]) (t := 48) (fr := (0, 0)) (heap_alloc_at (by simp))) (by simp [Value.oneCell']) (by omega) (by unfold maxLen; omega) (by omega) (by first | omega | (simp; omega) | (simp; done)) _ rfl ?_; intro g cap w7 ho hg hb' hlt'; have G7 := Lib.hid (Chg.grown (G5.out.alloc _) (ownsRow_new R5.out (by repeat (first | with_reducible exact New.refl _ | with_reducible assumption | refine New.drewN ?_ _ | refine New.drew ?_ | refine New.alloc ?_ _ | refine New.setCell ?_ (by first | omega | (simp; omega) | (simp; done)) _ | (refine New.trans ?_ (by assumption))))) (by have := HL.out; omega) hg); have RO7 := Lib.hid ho; have C7 := Lib.hid (Cur.grown (C5.out.new ((New.refl w5).alloc _)) (ownsRow_new R5.out (by repeat (first | with_reducible exact New.refl _ | with_reducible assumption | refine New.drewN ?_ _ | refine New.drew ?_ | refine New.alloc ?_ _ | refine New.setCell ?_ (by first | omega | (simp; omega) | (simp; done)) _ | (refine New.trans ?_ (by assumption))))) zc hg); clear ho hg hb' hlt'))
      go_roundw
      case rel =>
        refine ⟨j + 1, k - 1, xs ++ [(sz, ou, hd)], by go_num, by omega, by simp [hlen], fun i hi => ?_, by have := C7.out; exact this.mono (by omega), by rw [flatBasin_append]; exact RO7.out, G7.out⟩
        by_cases e : i < j
        · rw [List.getElem?_append_left (by omega)]; exact BD.out i e
        · obtain rfl : i = j := by omega
          rw [List.getElem?_append_right (by omega), hlen, Nat.sub_self]
          exact sb
      case measure => simp [intOf]; omega
    · obtain rfl : k = 0 := by omega
      have hj1 : 0 < j := by omega
      have ZB := Lib.hid (BD.out 0 hj1)
      go_wp2_with fail
      refine (pick_any _ c _ 16 CR.out (by omega) (by omega)).mono ?_
      rintro e w3 ⟨z, rfl, -, hcc, hch⟩
      have C3 := Lib.hid hcc
      have R3 := Lib.hid (ownsRow_chg' RO.out hch (fun b hb => by omega))
      have G3 := Lib.hid (GR.out.trans hch)
      clear hcc hch CR RO GR BD
      have zlo : lo ≤ w3.heap.size := by have := G3.out.size; have := HL.out; omega

      by_cases e0 : z = 0
      · subst e0
        obtain ⟨oa, oc, eu, ow⟩ := OwnBasin.of_row R3.out
        subst eu
        have OW := Lib.hid ow
        obtain ⟨b, eb, hb1, hb2, hb3, ⟨c0, c1, c2⟩, hfz, hput⟩ := ow.put hj1
        subst eb
        clear ow hput hfz c1 c2 R3
        obtain ⟨a0, ha0⟩ : ∃ a, a = (xs[0]?.getD (0, 0, 0)).1 := ⟨_, rfl⟩
        have zb := ZB.out
        rw [← ha0] at c0 zb
        have ga : IntKind.i64.wrap (a0 + 1) = a0 + 1 := i64_in _ (by omega)
        clear ha0
        go_wp2_with fail
        refine (among_any _ c _ _ _ _ [-1, a0 + 1] (C3.out.new (by repeat (first | with_reducible exact New.refl _ | with_reducible assumption | refine New.drewN ?_ _ | refine New.drew ?_ | refine New.alloc ?_ _ | refine New.setCell ?_ (by first | omega | (simp; omega) | (simp; done)) _ | (refine New.trans ?_ (by assumption))))) (ints_at' _ _ _ rfl (by simp)) (fun b o e => by cases e; omega) (by simp) (by simp) (by omega)).mono ?_
        rintro e w4 ⟨y, rfl, -, hcc, hch⟩
        have C4 := Lib.hid hcc
        have O4 := Lib.hid ((OW.out.new ((New.refl w3).alloc _)).chg hch (fun b h1 h2 => by omega))
        have G4 := Lib.hid ((G3.out.alloc _).trans hch)
        clear hcc hch C3 OW G3 hb1 hb2 hb3 c0 zb ga
        obtain ⟨b2, eb, hb1, hb2, hb3, ⟨c0, c1, c2⟩, hfz, hput⟩ := O4.out.put hj1
        obtain rfl : b = b2 := by cases eb; rfl
        have f2 := hfz 2
        obtain ⟨l', hl'⟩ := hput 2 (by omega) y
        have OL := Lib.hid hl'
        have CK := Lib.hid (Cur.store5 (p := ⟨b, 2, none⟩) (C4.out.mono (K' := K + 80) (by omega)) (by simp only; omega) (.int .i64 y))
        have GK := Lib.hid (Chg.put5 (p := ⟨b, 2, none⟩) G4.out (by simp only; have := HL.out; omega) (.int .i64 y))
        clear hput hfz hl' O4 C4 G4 c0 c1 eb
        go_wp2
        go_ret
        exact ⟨_, rfl, ⟨_, _, _, _, _, rfl, by omega, by rw [← HL.out]; exact OL.out⟩, CK.out, GK.out⟩
      · by_cases e1 : z = 1
        · subst e1
          obtain ⟨oa, oc, eu, ow⟩ := OwnBasin.of_row R3.out
          subst eu
          have OW := Lib.hid ow
          obtain ⟨b, eb, hb1, hb2, hb3, ⟨c0, c1, c2⟩, hfz, hput⟩ := ow.put hj1
          subst eb
          clear ow hput hfz c1 c2 c0 R3
          go_wp2_with fail
          refine (among_any _ c _ _ _ _ [0, 1000, 1001] (C3.out.new (by repeat (first | with_reducible exact New.refl _ | with_reducible assumption | refine New.drewN ?_ _ | refine New.drew ?_ | refine New.alloc ?_ _ | refine New.setCell ?_ (by first | omega | (simp; omega) | (simp; done)) _ | (refine New.trans ?_ (by assumption))))) (ints_at' _ _ _ rfl (by simp)) (fun b o e => by cases e; omega) (by simp) (by simp) (by omega)).mono ?_
          rintro e w4 ⟨y, rfl, -, hcc, hch⟩
          have C4 := Lib.hid hcc
          have O4 := Lib.hid ((OW.out.new ((New.refl w3).alloc _)).chg hch (fun b h1 h2 => by omega))
          have G4 := Lib.hid ((G3.out.alloc _).trans hch)
          clear hcc hch C3 OW G3 hb1 hb2 hb3
          obtain ⟨b2, eb, hb1, hb2, hb3, ⟨c0, c1, c2⟩, hfz, hput⟩ := O4.out.put hj1
          obtain rfl : b = b2 := by cases eb; rfl
          have f0 := hfz 0
          obtain ⟨l', hl'⟩ := hput 0 (by omega) y
          have OL := Lib.hid hl'
          have CK := Lib.hid (Cur.store5 (p := ⟨b, 0, none⟩) (C4.out.mono (K' := K + 80) (by omega)) (by simp only; omega) (.int .i64 y))
          have GK := Lib.hid (Chg.put5 (p := ⟨b, 0, none⟩) G4.out (by simp only; have := HL.out; omega) (.int .i64 y))
          clear hput hfz hl' O4 C4 G4 c1 c2 eb
          go_wp2
          go_ret
          exact ⟨_, rfl, ⟨_, _, _, _, _, rfl, by omega, by rw [← HL.out]; exact OL.out⟩, CK.out, GK.out⟩
        · by_cases e2 : z = 2
          · subst e2
            obtain ⟨oa, oc, eu, ow⟩ := OwnBasin.of_row R3.out
            subst eu
            have OW := Lib.hid ow
            obtain ⟨b, eb, hb1, hb2, hb3, ⟨c0, c1, c2⟩, hfz, hput⟩ := ow.put hj1
            subst eb
            clear ow hput hfz c1 c2 c0 R3
            go_wp2_with fail
            refine (among_any _ c _ _ _ _ [-1, 1000, 1001] (C3.out.new (by repeat (first | with_reducible exact New.refl _ | with_reducible assumption | refine New.drewN ?_ _ | refine New.drew ?_ | refine New.alloc ?_ _ | refine New.setCell ?_ (by first | omega | (simp; omega) | (simp; done)) _ | (refine New.trans ?_ (by assumption))))) (ints_at' _ _ _ rfl (by simp)) (fun b o e => by cases e; omega) (by simp) (by simp) (by omega)).mono ?_
            rintro e w4 ⟨y, rfl, -, hcc, hch⟩
            have C4 := Lib.hid hcc
            have O4 := Lib.hid ((OW.out.new ((New.refl w3).alloc _)).chg hch (fun b h1 h2 => by omega))
            have G4 := Lib.hid ((G3.out.alloc _).trans hch)
            clear hcc hch C3 OW G3 hb1 hb2 hb3
            obtain ⟨b2, eb, hb1, hb2, hb3, ⟨c0, c1, c2⟩, hfz, hput⟩ := O4.out.put hj1
            obtain rfl : b = b2 := by cases eb; rfl
            have f1 := hfz 1
            obtain ⟨l', hl'⟩ := hput 1 (by omega) y
            have OL := Lib.hid hl'
            have CK := Lib.hid (Cur.store5 (p := ⟨b, 1, none⟩) (C4.out.mono (K' := K + 80) (by omega)) (by simp only; omega) (.int .i64 y))
            have GK := Lib.hid (Chg.put5 (p := ⟨b, 1, none⟩) G4.out (by simp only; have := HL.out; omega) (.int .i64 y))
            clear hput hfz hl' O4 C4 G4 c0 c2 eb
            go_wp2
            go_ret
            exact ⟨_, rfl, ⟨_, _, _, _, _, rfl, by omega, by rw [← HL.out]; exact OL.out⟩, CK.out, GK.out⟩
          · by_cases e3 : z = 3
            · subst e3
              clear e0 e1 e2 ZB
              have C3' := Lib.hid (C3.out.mono (K' := K + 40 + 2 * j) (by omega))
              have j4 : j ≤ 4 := by omega
              clear C3 hkj hk hk1 hk4 zlo
              go_wp2
              go_loopw [5] (fun vo wr => ∃ (j : Nat) (xs : List (Int × Int × Int)), 0 < j ∧ j ≤ 7 ∧ xs.length = j ∧ Cur wr c (K + 40 + 2 * j) ∧ wr.ownsRow lo 48 3 vo j (flatBasin xs) ∧ Chg (fun b => b = c) w wr) (fun vo _ => 9 - (match vo with | .slice _ n _ => n | _ => 0))
              case atStart => exact ⟨j, xs, hj1, by omega, hlen, C3'.out, R3.out, G3.out⟩
              case round =>
                clear C3' R3 G3 hj1 j4 hlen
                obtain ⟨j, xs, hj1, hj7, hlen, hcc, hro, hch⟩ := hrel
                have CR := Lib.hid hcc
                have RO := Lib.hid hro
                have GR := Lib.hid hch
                clear hcc hro hch
                obtain ⟨oa, oc, eu, ow⟩ := OwnBasin.of_row RO.out
                subst eu
                clear ow
                go_wp2_with fail
                refine (pick_any _ c _ 2 CR.out (by omega) (by omega)).mono ?_
                rintro e w4 ⟨y, rfl, hy, hcc, hch⟩
                have C4 := Lib.hid hcc
                have R4 := Lib.hid (ownsRow_chg' RO.out hch (fun b hb => by omega))
                have G4 := Lib.hid (GR.out.trans hch)
                clear hcc hch CR RO GR
                have gy : IntKind.i64.wrap (6 + y) = 6 + y := i64_in _ (by omega)
                have zlo : lo ≤ w4.heap.size := by have := G4.out.size; have := HL.out; omega
                by_cases hlt : (j : Int) < 6 + y
                · obtain ⟨oa2, oc2, eu, ow⟩ := OwnBasin.of_row R4.out
                  obtain ⟨b, eb, hb1, hb2, hb3, ⟨c0, c1, c2⟩, -, -⟩ := ow.put hj1
                  cases eu
                  subst eb
                  obtain ⟨a0, ha0⟩ : ∃ a, a = (xs[0]?.getD (0, 0, 0)).1 := ⟨_, rfl⟩
                  obtain ⟨a1, ha1⟩ : ∃ a, a = (xs[0]?.getD (0, 0, 0)).2.1 := ⟨_, rfl⟩
                  obtain ⟨a2, ha2⟩ : ∃ a, a = (xs[0]?.getD (0, 0, 0)).2.2 := ⟨_, rfl⟩
                  rw [← ha0] at c0
                  rw [← ha1] at c1
                  rw [← ha2] at c2
                  clear ha0 ha1 ha2 ow hb2
                  have hjI : (0 : Int) < (j : Int) := by omega
                  have j6 : j ≤ 6 := by omega
                  clear hy
                  go_wp2_with (at_builtin; (refine wpList_append_lies _ (by rfl) (.tmp 69) (.tmp 73) 24 (by rfl) lo 48 i1 _ 3 24 Try.underlying24 hj hy0 hy1 hy2 rfl (by decide) _ j _ (by rfl) (ownsRow_new R4.out (by repeat (first | with_reducible exact New.refl _ | with_reducible assumption | refine New.drewN ?_ _ | refine New.drew ?_ | refine New.alloc ?_ _ | refine New.setCell ?_ (by first | omega | (simp; omega) | (simp; done)) _ | (refine New.trans ?_ (by assumption))))) _ _ _ [.int .i64 a0, .int .i64 a1, .int .i64 a2] (by rfl) (by rfl) (World.news_of_block (cs := #[.int .i64 a0, .int .i64 a1, .int .i64 a2]) (t := 48) (fr := (0, 0)) (heap_alloc_at (by simp))) (by simp [Value.oneCell']) (by omega) (by unfold maxLen; omega) (by omega) (by first | omega | (simp; omega) | (simp; done)) _ rfl ?_; intro g cap w7 ho hg hb' hlt'; have G7 := Lib.hid (Chg.grown (G4.out.alloc _) (ownsRow_new R4.out (by repeat (first | with_reducible exact New.refl _ | with_reducible assumption | refine New.drewN ?_ _ | refine New.drew ?_ | refine New.alloc ?_ _ | refine New.setCell ?_ (by first | omega | (simp; omega) | (simp; done)) _ | (refine New.trans ?_ (by assumption))))) (by have := HL.out; omega) hg); have RO7 := Lib.hid ho; have C7 := Lib.hid (Cur.grown (C4.out.new ((New.refl w4).alloc _)) (ownsRow_new R4.out (by repeat (first | with_reducible exact New.refl _ | with_reducible assumption | refine New.drewN ?_ _ | refine New.drew ?_ | refine New.alloc ?_ _ | refine New.setCell ?_ (by first | omega | (simp; omega) | (simp; done)) _ | (refine New.trans ?_ (by assumption))))) zc hg); clear ho hg hb' hlt'))
                  go_roundw
                  case rel => exact ⟨j + 1, xs ++ [(a0, a1, a2)], by omega, by omega, by simp [hlen], by have := C7.out; exact this.mono (by omega), by rw [flatBasin_append]; exact RO7.out, G7.out⟩
                  case measure => simp; omega
                · go_wp2
                  go_ret
                  exact ⟨_, rfl, by rw [← HL.out]; exact RowBo.of R4.out (by omega), C4.out.mono (by omega), G4.out⟩
            · go_wp2
              go_ret
              exact ⟨_, rfl, by rw [← HL.out]; exact RowBo.of R3.out (by omega), C3.out.mono (by omega), G3.out⟩

theorem RowD.ints'5 {w : World} {lo : Nat} {v : Value} (h : RowD w lo v) : ∃ ao n cap l, v = .slice ao n cap ∧ Ints w ao n cap l := by
  obtain ⟨ao, n, cap, l, e, _, o⟩ := h.ints
  exact ⟨ao, n, cap, l, e, o.ints⟩


set_option maxRecDepth 100000 in
set_option maxHeartbeats 4000000 in
theorem drawRunRow_any (w : World) (ao : Option Addr) (n cap : Nat) (hb : Byts w ao n cap) :
    Calls Try.prog 6 #[.slice ao n cap] w fun e w' => ∃ (oa : Option Addr) (m oc : Nat) (l : List (Int × Int × Int)) (ob : Option Addr) (m2 oc2 : Nat) (xs : List Int), e = .returned (.tuple #[.slice oa m oc, .slice ob m2 oc2]) ∧ Basins w' oa m oc l ∧ Ints w' ob m2 oc2 xs ∧ New w w' := by
  have H := Lib.hid (Cur.fresh' hb (rfl : w.heap.size = w.heap.size)); clear hb
  go_enter Try.func6, Try.ntmps6
  go_wp2_with fail
  refine (drRow_any _ w.heap.size 0 4 H.out (by omega) (by decide) (by decide)).mono ?_
  rintro e w1 ⟨v, rfl, hrow, hcc, hch⟩
  have C1 := Lib.hid (hcc.mono (K' := 80) (by omega))
  have G := Lib.hid ((Chg.of_new (P := fun b => b = w.heap.size) ((New.refl w).alloc (.cells #[.slice ao n cap, .int .i64 0, .int .u64 0] 64))).trans hch)
  simp only [World.size_alloc] at hrow
  have RR := Lib.hid hrow
  clear hch hrow H hcc
  go_wp2_with fail
  refine (drFlows_any _ w.heap.size 80 C1.out (by omega)).mono ?_
  rintro e w2 ⟨v2, rfl, hrow2, -, hch⟩
  have R2 := RR.out.chg hch (fun b hb => by omega)
  obtain ⟨oa, m, oc, l, rfl, hl⟩ := R2.reads
  obtain ⟨ob, m2, oc2, xs, rfl, hx⟩ := hrow2.ints'5
  have HL := Lib.hid hl
  have HX := Lib.hid hx
  have G2 := Lib.hid (G.out.trans hch)
  clear hl hx hch hrow2 R2 RR C1 G
  go_wp2
  go_ret2
  exact ⟨oa, m, oc, l, ob, m2, oc2, xs, rfl, HL.out, HX.out, Chg.new (New.refl w) G2.out (fun i hi => by omega)⟩


set_option maxRecDepth 100000 in
set_option maxHeartbeats 4000000 in
theorem drawJoinRows_any (w : World) (ao : Option Addr) (n cap : Nat) (hb : Byts w ao n cap) :
    Calls Try.prog 27 #[.slice ao n cap] w fun e w' => ∃ (oa : Option Addr) (m oc : Nat) (l : List (Int × Int × Int)) (ob : Option Addr) (m2 oc2 : Nat) (xs : List (Int × Int × Int)), e = .returned (.tuple #[.slice oa m oc, .slice ob m2 oc2]) ∧ Basins w' oa m oc l ∧ Basins w' ob m2 oc2 xs ∧ New w w' := by
  have H := Lib.hid (Cur.fresh' hb (rfl : w.heap.size = w.heap.size)); clear hb
  go_enter Try.func27, Try.ntmps27
  go_wp2_with fail
  refine (drRow_any _ w.heap.size 0 3 H.out (by omega) (by decide) (by decide)).mono ?_
  rintro e w1 ⟨v, rfl, hrow, hcc, hch⟩
  have C1 := Lib.hid (hcc.mono (K' := 80) (by omega))
  have G := Lib.hid ((Chg.of_new (P := fun b => b = w.heap.size) ((New.refl w).alloc (.cells #[.slice ao n cap, .int .i64 0, .int .u64 0] 64))).trans hch)
  simp only [World.size_alloc] at hrow
  have RR := Lib.hid hrow
  clear hch hrow H hcc
  go_wp2_with fail
  refine (drRow_any _ w.heap.size 80 3 C1.out (by omega) (by decide) (by decide)).mono ?_
  rintro e w2 ⟨v2, rfl, hrow2, -, hch⟩
  have R2 := RR.out.chg hch (fun b hb => by omega)
  obtain ⟨oa, m, oc, l, rfl, hl⟩ := R2.reads
  obtain ⟨ob, m2, oc2, xs, rfl, hx⟩ := hrow2.reads
  have HL := Lib.hid hl
  have HX := Lib.hid hx
  have G2 := Lib.hid (G.out.trans hch)
  clear hl hx hch hrow2 R2 RR C1 G
  go_wp2
  go_ret2
  exact ⟨oa, m, oc, l, ob, m2, oc2, xs, rfl, HL.out, HX.out, Chg.new (New.refl w) G2.out (fun i hi => by omega)⟩


theorem drawAreFlows_any (w : World) (ao : Option Addr) (n cap : Nat) (hb : Byts w ao n cap) :
    Calls Try.prog 65 #[.slice ao n cap] w fun e w' => ∃ (oa : Option Addr) (m oc : Nat) (l : List Int), e = .returned (.slice oa m oc) ∧ Ints w' oa m oc l ∧ New w w' := by
  have H := Lib.hid (Cur.fresh' hb (rfl : w.heap.size = w.heap.size)); clear hb
  go_enter Try.func65, Try.ntmps65
  go_wp2_with fail
  refine (drFlows_any _ w.heap.size 0 H.out (by omega)).mono ?_
  rintro e w1 ⟨v, rfl, hrow, -, hch⟩
  obtain ⟨oa, m, oc, l, rfl, hl⟩ := hrow.ints'5
  have HL := Lib.hid hl
  have G := Lib.hid ((Chg.of_new (P := fun b => b = w.heap.size) ((New.refl w).alloc (.cells #[.slice ao n cap, .int .i64 0, .int .u64 0] 64))).trans hch)
  clear hl hch hrow H
  go_wp2
  go_ret
  exact ⟨oa, m, oc, l, rfl, HL.out, Chg.new (New.refl w) G.out (fun i hi => by omega)⟩

theorem drawRunningTotals_any (w : World) (ao : Option Addr) (n cap : Nat) (hb : Byts w ao n cap) :
    Calls Try.prog 30 #[.slice ao n cap] w fun e w' => ∃ (oa : Option Addr) (m oc : Nat) (l : List Int), e = .returned (.slice oa m oc) ∧ Ints w' oa m oc l ∧ New w w' := by
  have HB := Lib.hid hb; clear hb
  go_enter Try.func30, Try.ntmps30
  go_wp2_with fail
  refine (drawAreFlows_any _ ao n cap HB.out).mono ?_
  rintro e w1 ⟨oa, m, oc, l, rfl, hl, n1⟩
  have HL := Lib.hid hl
  have N1 := Lib.hid n1
  clear hl n1 HB
  go_wp2
  go_ret
  exact ⟨oa, m, oc, l, rfl, HL.out, N1.out⟩
end Go.Proofs.Ytchnnbkaiagpgaa
