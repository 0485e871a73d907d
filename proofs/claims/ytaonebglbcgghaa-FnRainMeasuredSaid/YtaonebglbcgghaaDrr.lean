/- What is drawn of rain is a number and a row of numbers; eSame and eSum of a law. -/
import Derived.Test.YtaonebglbcgghaaCur
import Derived.Test.YtaonebglbcgghaaRows2b
import Derived.Test.YtaonebglbcgghaaAll
import Derived.Test.YtaonebglbcgghaaCopyTo
import Derived.Laws.AppendOwn
import Derived.Deep.AppendLies
namespace Go.Proofs.Ytaonebglbcgghaa
open Go.RowKit Go.IntWalk

theorem ints_at' (w : World) (l : List Int) (t : TypeId) {B : Nat} (hB : w.heap.size = B) (hl : l.length ≤ 1000) : Ints (w.alloc (.cells (l.map (Value.int .i64)).toArray t)) (some ⟨B, 0, none⟩) l.length l.length l := by
  subst hB
  refine ⟨rfl, Nat.le_refl _, by omega, fun j hj => ⟨_, _, rfl, ?_⟩, fun e => by cases e⟩
  simp [hj]
theorem Cur.lt {w : World} {c K : Nat} (h : Cur w c K) : c < w.heap.size := by
  obtain ⟨ao, n, cap, k, s, h0, -⟩ := h.ex
  exact World.block_lt_of_cell? _ _ h0
theorem Cur.fresh' {w : World} {ao : Option Addr} {n cap c : Nat} (hb : Byts w ao n cap) (hc : w.heap.size = c) : Cur (w.alloc (.cells #[.slice ao n cap, .int .i64 0, .int .u64 0] 41)) c 0 := by
  subst hc
  exact Cur.start hb ((New.refl w).alloc _) (Nat.le_refl _) (by simp) (by simp) (by simp) (by simp) (by simp)
theorem Chg.alloc {P : Nat → Prop} {w w' : World} (h : Chg P w w') (o : Obj) : Chg P w (w'.alloc o) := h.trans (Chg.of_new ((New.refl w').alloc o))
/-- A row that a draw gives. -/
def RowD (w : World) (lo : Nat) (v : Value) : Prop := ∃ (n : Nat) (l : List Int), n ≤ 1000 ∧ w.ownsRow lo 3 1 v n (l.map (Value.int .i64))
theorem ownsRow_chg {P : Nat → Prop} {w w' : World} {lo : Nat} {v : Value} {n : Nat} {xs : List Value} (h : w.ownsRow lo 3 1 v n xs) (k : Chg P w w') (hP : ∀ b, lo ≤ b → ¬ P b) : w'.ownsRow lo 3 1 v n xs :=
  ownsRow_block h fun g e => k.block g (h.lt g e).2 (hP g (h.lt g e).1)
theorem Chg.grown {P : Nat → Prop} {w0 w w' : World} {base : Nat} {e : TypeId} {size n : Nat} {v : Value} {xs : List Value} (h : Chg P w0 w) (ho : w.ownsRow base e size v n xs) (hb : w0.heap.size ≤ base) (hg : w.grownBy w' v.ownBlock) : Chg P w0 w' :=
  ⟨hg.os.trans h.os, hg.tape.trans h.tape, hg.output.trans h.output, Nat.le_trans h.size hg.size, fun k hk hP => (hg.block k (Nat.lt_of_lt_of_le hk h.size) (fun e => by have := (ho.lt k e.symm).1; omega)).trans (h.block k hk hP)⟩
theorem Cur.grown {w w' : World} {c K base : Nat} {e : TypeId} {size n : Nat} {v : Value} {xs : List Value} (h : Cur w c K) (ho : w.ownsRow base e size v n xs) (hb : c < base) (hg : w.grownBy w' v.ownBlock) : Cur w' c K :=
  h.kept fun i hi => hg.block i (Nat.lt_of_le_of_lt hi h.lt) (fun e => by have := (ho.lt i e.symm).1; omega)
theorem RowD.ints {w : World} {lo : Nat} {v : Value} (h : RowD w lo v) : ∃ ao n cap l, v = .slice ao n cap ∧ n ≤ 1000 ∧ Own w lo w.heap.size ao n cap l := by
  obtain ⟨n, l, hn, ho⟩ := h
  obtain ⟨oa, oc, e, o⟩ := Own.of_row ho
  exact ⟨oa, n, oc, l, e, hn, o⟩
theorem RowD.new {w w' : World} {lo : Nat} {v : Value} (h : RowD w lo v) (k : New w w') : RowD w' lo v := by
  obtain ⟨n, l, hn, ho⟩ := h
  exact ⟨n, l, hn, ownsRow_new ho k⟩
theorem RowD.chg {P : Nat → Prop} {w w' : World} {lo : Nat} {v : Value} (h : RowD w lo v) (k : Chg P w w') (hP : ∀ b, lo ≤ b → ¬ P b) : RowD w' lo v := by
  obtain ⟨n, l, hn, ho⟩ := h
  exact ⟨n, l, hn, ownsRow_chg ho k hP⟩
theorem run_makeD {n : Nat} (hn : n ≤ 1048576) (w : World) :
    (Instr.makeSlice 24 (.int .i64 (n : Int)) (.int .i64 (n : Int))).run Try.prog w = .ok (.slice (some ⟨w.heap.size, 0, none⟩) n n) (w.alloc (.cells (madeCells #[.int .i64 0] (n * 1)) 3)) := by
  obtain ⟨i, hi, hzz⟩ := Option.map_eq_some_iff.1 Try.infoInt
  simp only [Prod.mk.injEq] at hzz
  obtain ⟨hz, hs, hb⟩ := hzz
  have hr := run_make (P := Try.prog) w 24 3 i _ Try.underlying24 hi hz .i64 .i64 n n (by omega) (Int.le_refl _) (by rw [hb]; omega) (by omega)
  rw [hs] at hr
  simp only [Int.toNat_natCast] at hr
  exact hr
theorem made_row (w : World) (n : Nat) {lo : Nat} (hl : lo ≤ w.heap.size) (hn : n ≤ 1000) : RowD (w.alloc (.cells (madeCells #[.int .i64 0] (n * 1)) 3)) lo (.slice (some ⟨w.heap.size, 0, none⟩) n n) := by
  refine ⟨n, List.replicate n 0, hn, ?_⟩
  rw [Nat.mul_one, madeCells_eq]
  exact ⟨by simp, .inr ⟨w.heap.size, n, (List.replicate n (Value.int .i64 0)).toArray, rfl, hl, heap_alloc_new w _, Nat.le_refl _, by unfold maxLen; omega, by simp, by simp⟩⟩

set_option maxRecDepth 100000 in
set_option maxHeartbeats 8000000 in
theorem rain_any (w : World) (c K : Nat) (h : Cur w c K) (hK : K ≤ 999000) :
    Calls Try.prog 22 #[.pointer (some ⟨c, 0, none⟩)] w fun e w' => ∃ (r : Int) (v : Value), e = .returned (.tuple #[.int .i64 r, v]) ∧ RowD w' w.heap.size v ∧ Cur w' c (K + 40) ∧ Chg (fun b => b = c) w w' := by
  obtain ⟨i0, hi, hz0, hz1, hz2⟩ := info_parts Try.infoInt
  have zc := h.lt
  have H := Lib.hid h; clear h
  go_enter Try.func22, Try.ntmps22
  go_wp2_with fail
  refine (pick_any _ c K 12 H.out (by omega) (by omega)).mono ?_
  rintro e w1 ⟨r0, rfl, hr0, hcc, hch⟩
  have C1 := Lib.hid hcc
  have G1 := Lib.hid hch
  clear hcc hch H
  have g1 : IntKind.i64.wrap (1 + r0) = 1 + r0 := i64_in _ (by omega)
  clear hr0
  go_wp2_with fail
  refine (pick_any _ c (K + 2) 10 C1.out (by omega) (by omega)).mono ?_
  rintro e w2 ⟨k0, rfl, hk0, hcc, hch⟩
  have C2 := Lib.hid hcc
  have G2 := Lib.hid (G1.out.trans hch)
  clear hcc hch C1 G1 g1
  obtain ⟨lo, hlo⟩ : ∃ lo, lo = w.heap.size := ⟨_, rfl⟩
  rw [← hlo] at zc
  have HL := Lib.hid hlo; clear hlo
  obtain ⟨room, hroom⟩ : ∃ x, x = 1 + r0 := ⟨_, rfl⟩
  rw [← hroom]
  clear hroom
  go_wp2
  go_loopw [5, 6] (fun vo vk wr => ∃ (j k : Nat) (xs : List Int), vk = .int .i64 (k : Int) ∧ k + j ≤ 10 ∧ xs.length = j ∧ Cur wr c (K + 4 + 2 * j) ∧ wr.ownsRow lo 3 1 vo j (xs.map (Value.int .i64)) ∧ Chg (fun b => b = c) w wr) (fun _ vk _ => (intOf vk).toNat)
  case atStart =>
    obtain ⟨k, rfl⟩ := Int.eq_ofNat_of_zero_le hk0.1
    exact ⟨0, k, [], rfl, by omega, rfl, C2.out, ⟨rfl, .inl ⟨rfl, rfl⟩⟩, G2.out⟩
  case round =>
    obtain ⟨j, k, xs, rfl, hkj, hlen, hcc, hro, hch⟩ := hrel
    have CR := Lib.hid hcc
    have RO := Lib.hid hro
    have GR := Lib.hid hch
    clear hcc hro hch
    by_cases hk : 0 < k
    · have hkk : (0 : Int) < k := by omega
      have gk : IntKind.i64.wrap ((k : Int) - 1) = (k : Int) - 1 := i64_in _ (by omega)
      go_wp2_with fail
      refine (pick_any _ c (K + 4 + 2 * j) 20 CR.out (by omega) (by omega)).mono ?_
      rintro e w3 ⟨x, rfl, -, hcc, hch⟩
      have C3 := Lib.hid hcc
      have R3 := Lib.hid (ownsRow_chg RO.out hch (fun b hb => by omega))
      have G3 := Lib.hid (GR.out.trans hch)
      clear hcc hch CR RO GR
      have zlo : lo ≤ w3.heap.size := by have := G3.out.size; have := HL.out; omega
      go_wp2_with (at_builtin; (refine wpList_append_lies _ (by rfl) (.tmp 16) (.tmp 19) 24 (by rfl) lo 3 i0 (.int .i64 0) 1 8 Try.underlying24 hi hz0 hz1 hz2 rfl (by decide) _ j _ (by rfl) (ownsRow_new R3.out (by repeat (first | with_reducible exact New.refl _ | with_reducible assumption | refine New.drewN ?_ _ | refine New.drew ?_ | refine New.alloc ?_ _ | refine New.setCell ?_ (by first | omega | (simp; omega) | (simp; done)) _ | (refine New.trans ?_ (by assumption))))) _ _ _ [.int .i64 x] (by rfl) (by rfl) (World.news_of_block (cs := #[.int .i64 x]) (t := 3) (fr := (0, 0)) (heap_alloc_at (by simp))) (by simp [Value.oneCell']) (by omega) (by unfold maxLen; omega) (by omega) (by first | omega | (simp; omega) | (simp; done)) _ rfl ?_; intro g cap w7 ho hg hb' hlt'; have G7 := Lib.hid (Chg.grown (G3.out.alloc _) (ownsRow_new R3.out (by repeat (first | with_reducible exact New.refl _ | with_reducible assumption | refine New.drewN ?_ _ | refine New.drew ?_ | refine New.alloc ?_ _ | refine New.setCell ?_ (by first | omega | (simp; omega) | (simp; done)) _ | (refine New.trans ?_ (by assumption))))) (by have := HL.out; omega) hg); have RO7 := Lib.hid ho; have C7 := Lib.hid (Cur.grown (C3.out.new ((New.refl w3).alloc _)) (ownsRow_new R3.out (by repeat (first | with_reducible exact New.refl _ | with_reducible assumption | refine New.drewN ?_ _ | refine New.drew ?_ | refine New.alloc ?_ _ | refine New.setCell ?_ (by first | omega | (simp; omega) | (simp; done)) _ | (refine New.trans ?_ (by assumption))))) zc hg); clear ho hg hb' hlt'))
      go_roundw
      case rel => exact ⟨j + 1, k - 1, xs ++ [x], by go_num, by omega, by simp [hlen], by have := C7.out; exact this.mono (by omega), by rw [List.map_append]; exact RO7.out, G7.out⟩
      case measure => simp [intOf]; omega
    · obtain rfl : k = 0 := by omega
      go_wp2_with fail
      refine (pick_any _ c (K + 4 + 2 * j) 16 CR.out (by omega) (by omega)).mono ?_
      rintro e w3 ⟨z, rfl, -, hcc, hch⟩
      have C3 := Lib.hid hcc
      have R3 := Lib.hid (ownsRow_chg RO.out hch (fun b hb => by omega))
      have G3 := Lib.hid (GR.out.trans hch)
      clear hcc hch CR RO GR
      have zlo : lo ≤ w3.heap.size := by have := G3.out.size; have := HL.out; omega
      by_cases e0 : z = 0
      · subst e0
        go_wp2_with fail
        refine (among_any _ c _ _ _ _ [0, 60, 61, -1] (C3.out.new (by repeat (first | with_reducible exact New.refl _ | with_reducible assumption | refine New.drewN ?_ _ | refine New.drew ?_ | refine New.alloc ?_ _ | refine New.setCell ?_ (by first | omega | (simp; omega) | (simp; done)) _ | (refine New.trans ?_ (by assumption))))) (ints_at' _ _ _ rfl (by decide)) (fun b o e => by cases e; omega) (by decide) (by decide) (by omega)).mono ?_
        rintro e w4 ⟨y, rfl, -, hcc, hch⟩
        have C4 := Lib.hid hcc
        have R4 := Lib.hid (ownsRow_chg (ownsRow_new R3.out ((New.refl w3).alloc _)) hch (fun b hb => by omega))
        have G4 := Lib.hid ((G3.out.alloc _).trans hch)
        clear hcc hch C3 R3 G3
        go_wp2
        go_ret2
        exact ⟨y, u5, rfl, ⟨j, xs, by omega, by rw [← HL.out]; exact R4.out⟩, C4.out.mono (by omega), G4.out⟩
      · by_cases e1 : z = 1
        · subst e1
          go_wp2_with fail
          refine (among_any _ c _ _ _ _ [-1, 10000, 10001] (C3.out.new (by repeat (first | with_reducible exact New.refl _ | with_reducible assumption | refine New.drewN ?_ _ | refine New.drew ?_ | refine New.alloc ?_ _ | refine New.setCell ?_ (by first | omega | (simp; omega) | (simp; done)) _ | (refine New.trans ?_ (by assumption))))) (ints_at' _ _ _ rfl (by decide)) (fun b o e => by cases e; omega) (by decide) (by decide) (by omega)).mono ?_
          rintro e w4 ⟨y, rfl, -, hcc, hch⟩
          have C4 := Lib.hid hcc
          have R4 := Lib.hid (ownsRow_chg (ownsRow_new R3.out ((New.refl w3).alloc _)) hch (fun b hb => by omega))
          have G4 := Lib.hid ((G3.out.alloc _).trans hch)
          clear hcc hch C3 R3 G3
          have zlo4 : lo ≤ w4.heap.size := by have := G4.out.size; have := HL.out; omega
          go_wp2_with (at_builtin; (refine wpList_append_lies _ (by rfl) (.tmp 30) (.tmp 34) 24 (by rfl) lo 3 i0 (.int .i64 0) 1 8 Try.underlying24 hi hz0 hz1 hz2 rfl (by decide) _ j _ (by rfl) (ownsRow_new R4.out (by repeat (first | with_reducible exact New.refl _ | with_reducible assumption | refine New.drewN ?_ _ | refine New.drew ?_ | refine New.alloc ?_ _ | refine New.setCell ?_ (by first | omega | (simp; omega) | (simp; done)) _ | (refine New.trans ?_ (by assumption))))) _ _ _ [.int .i64 y] (by rfl) (by rfl) (World.news_of_block (cs := #[.int .i64 y]) (t := 3) (fr := (0, 0)) (heap_alloc_at (by simp))) (by simp [Value.oneCell']) (by omega) (by unfold maxLen; omega) (by omega) (by first | omega | (simp; omega) | (simp; done)) _ rfl ?_; intro g cap w7 ho hg hb' hlt'; have G7 := Lib.hid (Chg.grown (G4.out.alloc _) (ownsRow_new R4.out (by repeat (first | with_reducible exact New.refl _ | with_reducible assumption | refine New.drewN ?_ _ | refine New.drew ?_ | refine New.alloc ?_ _ | refine New.setCell ?_ (by first | omega | (simp; omega) | (simp; done)) _ | (refine New.trans ?_ (by assumption))))) (by have := HL.out; omega) hg); have RO7 := Lib.hid ho; have C7 := Lib.hid (Cur.grown (C4.out.new ((New.refl w4).alloc _)) (ownsRow_new R4.out (by repeat (first | with_reducible exact New.refl _ | with_reducible assumption | refine New.drewN ?_ _ | refine New.drew ?_ | refine New.alloc ?_ _ | refine New.setCell ?_ (by first | omega | (simp; omega) | (simp; done)) _ | (refine New.trans ?_ (by assumption))))) zc hg); clear ho hg hb' hlt'))
          go_ret2
          exact ⟨room, _, rfl, ⟨j + 1, xs ++ [y], by omega, by rw [← HL.out, List.map_append]; exact RO7.out⟩, C7.out.mono (by omega), G7.out⟩
        · by_cases e2 : z = 2
          · subst e2
            go_wp2_with fail
            refine (pick_any _ c _ 2 C3.out (by omega) (by omega)).mono ?_
            rintro e w4 ⟨y, rfl, hy, hcc, hch⟩
            have C4 := Lib.hid hcc
            have G4 := Lib.hid (G3.out.trans hch)
            clear hcc hch C3 R3 G3
            have zlo4 : lo ≤ w4.heap.size := by have := G4.out.size; have := HL.out; omega
            obtain ⟨m, rfl⟩ := Int.eq_ofNat_of_zero_le hy.1
            have gm : IntKind.i64.wrap (100 + (m : Int)) = ((100 + m : Nat) : Int) := by rw [i64_in _ (by omega)]; push_cast; rfl
            have hmk := run_makeD (n := 100 + m) (by omega) w4
            have RR := Lib.hid (made_row w4 (100 + m) (lo := lo) zlo4 (by omega))
            clear hy
            obtain ⟨nn, hnn⟩ : ∃ nn, nn = 100 + m := ⟨_, rfl⟩
            rw [← hnn] at gm hmk RR
            clear hnn
            go_wp2
            go_ret2
            exact ⟨room, _, rfl, by rw [← HL.out]; have q := RR.out; rw [Nat.mul_one] at q; exact q, (C4.out.new ((New.refl _).alloc _)).mono (by omega), G4.out.alloc _⟩
          · go_wp2
            go_ret2
            exact ⟨room, u5, rfl, ⟨j, xs, by omega, by rw [← HL.out]; exact R3.out⟩, C3.out.mono (by omega), G3.out⟩
end Go.Proofs.Ytaonebglbcgghaa
