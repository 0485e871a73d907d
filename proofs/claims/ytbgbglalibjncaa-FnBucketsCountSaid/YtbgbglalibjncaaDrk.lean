/- What is drawn of caps, drops and what is held. -/
import Derived.Test.YtbgbglalibjncaaDrr
import Derived.Test.YtbgbglalibjncaaBuckS
namespace Go.Proofs.Ytbgbglalibjncaa
open Go.RowKit Go.IntWalk

theorem Chg.put {P : Nat → Prop} {w w' : World} (h : Chg P w w') {p : Addr} (hp : w.heap.size ≤ p.block) (u : Value) : Chg P w (w'.setCell p u) :=
  have s := Chg.setCell (w := w') (p := p) u
  ⟨s.os.trans h.os, s.tape.trans h.tape, s.output.trans h.output, Nat.le_trans h.size s.size, fun k hk hP => (s.block k (Nat.lt_of_lt_of_le hk h.size) (by omega)).trans (h.block k hk hP)⟩
theorem Cur.store {w : World} {c K : Nat} (h : Cur w c K) {p : Addr} (hp : c < p.block) (u : Value) : Cur (w.setCell p u) c K :=
  h.kept fun i hi => (Chg.setCell (w := w) (p := p) u).block i (Nat.lt_of_le_of_lt hi h.lt) (by omega)
/-- A row that a draw gives, of its own. -/
def RowO (w : World) (lo : Nat) (v : Value) (m : Nat := 1000) : Prop := ∃ (ao : Option Addr) (n cap : Nat) (l : List Int) (hi : Nat), v = .slice ao n cap ∧ n ≤ m ∧ Own w lo hi ao n cap l
theorem rowO_of {w : World} {lo n m : Nat} {v : Value} {l : List Int} (h : w.ownsRow lo 3 1 v n (l.map (Value.int .i64))) (hn : n ≤ m) : RowO w lo v m := by
  obtain ⟨oa, oc, e, o⟩ := Own.of_row h
  exact ⟨oa, n, oc, l, _, e, hn, o⟩
theorem RowD.own {w : World} {lo : Nat} {v : Value} (h : RowD w lo v) : RowO w lo v := by
  obtain ⟨ao, n, cap, l, e, hn, o⟩ := h.ints
  exact ⟨ao, n, cap, l, _, e, hn, o⟩
theorem RowO.chg {P : Nat → Prop} {w w' : World} {lo m : Nat} {v : Value} (h : RowO w lo v m) (k : Chg P w w') (hP : ∀ b, lo ≤ b → ¬ P b) : RowO w' lo v m := by
  obtain ⟨ao, n, cap, l, hi, e, hn, o⟩ := h
  exact ⟨ao, n, cap, l, hi, e, hn, o.chg k fun b h1 _ => hP b h1⟩
theorem RowO.nil (w : World) (lo : Nat) : RowO w lo (.slice none 0 0) := ⟨none, 0, 0, [], lo, rfl, by omega, Own.nil w lo lo⟩
theorem row_lit (w : World) (l : List Int) {lo B : Nat} (hB : w.heap.size = B) (hl : lo ≤ B) (hn : l.length ≤ 1000) : RowO (w.alloc (.cells (l.map (Value.int .i64)).toArray 3)) lo (.slice (some ⟨B, 0, none⟩) l.length l.length) := by
  subst hB
  refine RowD.own ⟨l.length, l, hn, by simp, .inr ⟨w.heap.size, l.length, (l.map (Value.int .i64)).toArray, rfl, hl, heap_alloc_new w _, Nat.le_refl _, by unfold maxLen; omega, by simp, ?_⟩⟩
  simp only [Nat.mul_one]
  exact List.take_of_length_le (by simp)

set_option maxRecDepth 100000 in
set_option maxHeartbeats 8000000 in
theorem caps_any (w : World) (c K : Nat) (h : Cur w c K) (hK : K ≤ 999000) :
    Calls Try.prog 25 #[.pointer (some ⟨c, 0, none⟩)] w fun e w' => ∃ v : Value, e = .returned v ∧ RowO w' w.heap.size v ∧ Cur w' c (K + 40) ∧ Chg (fun b => b = c) w w' := by
  obtain ⟨i0, hi, hz0, hz1, hz2⟩ := info_parts Try.infoInt
  have zc := h.lt
  have H := Lib.hid h; clear h
  go_enter Try.func25, Try.ntmps25
  go_wp2_with fail
  refine (pick_any _ c K 4 H.out (by omega) (by omega)).mono ?_
  rintro e w1 ⟨r0, rfl, hr0, hcc, hch⟩
  have C1 := Lib.hid hcc
  have G1 := Lib.hid hch
  clear hcc hch H
  obtain ⟨lo, hlo⟩ : ∃ lo, lo = w.heap.size := ⟨_, rfl⟩
  rw [← hlo] at zc
  have HL := Lib.hid hlo; clear hlo
  obtain ⟨k0, hk0⟩ : ∃ k : Nat, 1 + r0 = (k : Int) ∧ 1 ≤ k ∧ k ≤ 4 := ⟨(1 + r0).toNat, by omega, by omega, by omega⟩
  have g1 : IntKind.i64.wrap (1 + r0) = (k0 : Int) := by rw [i64_in _ (by omega)]; exact hk0.1
  have HK := Lib.hid hk0; clear hk0 hr0
  go_wp2
  go_loopw [3, 4] (fun vo vk wr => ∃ (j k : Nat) (xs : List Int), vk = .int .i64 (k : Int) ∧ k + j = k0 ∧ xs.length = j ∧ Cur wr c (K + 4 + 2 * j) ∧ wr.ownsRow lo 3 1 vo j (xs.map (Value.int .i64)) ∧ Chg (fun b => b = c) w wr) (fun _ vk _ => (intOf vk).toNat)
  case atStart => exact ⟨0, k0, [], rfl, by omega, rfl, C1.out.mono (by omega), ⟨rfl, .inl ⟨rfl, rfl⟩⟩, G1.out⟩
  case round =>
    obtain ⟨j, k, xs, rfl, hkj, hlen, hcc, hro, hch⟩ := hrel
    have CR := Lib.hid hcc
    have RO := Lib.hid hro
    have GR := Lib.hid hch
    have hk4 := HK.out.2.2
    have hk1 := HK.out.2.1
    clear hcc hro hch
    by_cases hk : 0 < k
    · have hkk : (0 : Int) < k := by omega
      have gk : IntKind.i64.wrap ((k : Int) - 1) = (k : Int) - 1 := i64_in _ (by omega)
      go_wp2_with fail
      refine (pick_any _ c (K + 4 + 2 * j) 6 CR.out (by omega) (by omega)).mono ?_
      rintro e w3 ⟨x0, rfl, hx0, hcc, hch⟩
      have C3 := Lib.hid hcc
      have R3 := Lib.hid (ownsRow_chg RO.out hch (fun b hb => by omega))
      have G3 := Lib.hid (GR.out.trans hch)
      clear hcc hch CR RO GR
      have g2 : IntKind.i64.wrap (2 + x0) = 2 + x0 := i64_in _ (by omega)
      obtain ⟨x, hx⟩ : ∃ x, x = 2 + x0 := ⟨_, rfl⟩
      rw [← hx] at g2
      clear hx0
      have zlo : lo ≤ w3.heap.size := by have := G3.out.size; have := HL.out; omega
      have g2 : IntKind.i64.wrap (2 + x0) = x := by rw [← hx]; exact g2
      clear hx
      go_wp2_with (at_builtin; (refine wpList_append_lies _ (by rfl) (.tmp 12) (.tmp 16) 24 (by rfl) lo 3 i0 (.int .i64 0) 1 8 Try.underlying24 hi hz0 hz1 hz2 rfl (by decide) _ j _ (by rfl) (ownsRow_new R3.out (by repeat (first | with_reducible exact New.refl _ | with_reducible assumption | refine New.drewN ?_ _ | refine New.drew ?_ | refine New.alloc ?_ _ | refine New.setCell ?_ (by first | omega | (simp; omega) | (simp; done)) _ | (refine New.trans ?_ (by assumption))))) _ _ _ [.int .i64 x] (by rfl) (by rfl) (World.news_of_block (cs := #[.int .i64 x]) (t := 3) (fr := (0, 0)) (heap_alloc_at (by simp))) (by simp [Value.oneCell']) (by omega) (by unfold maxLen; omega) (by omega) (by first | omega | (simp; omega) | (simp; done)) _ rfl ?_; intro g cap w7 ho hg hb' hlt'; have G7 := Lib.hid (Chg.grown (G3.out.alloc _) (ownsRow_new R3.out (by repeat (first | with_reducible exact New.refl _ | with_reducible assumption | refine New.drewN ?_ _ | refine New.drew ?_ | refine New.alloc ?_ _ | refine New.setCell ?_ (by first | omega | (simp; omega) | (simp; done)) _ | (refine New.trans ?_ (by assumption))))) (by have := HL.out; omega) hg); have RO7 := Lib.hid ho; have C7 := Lib.hid (Cur.grown (C3.out.new ((New.refl w3).alloc _)) (ownsRow_new R3.out (by repeat (first | with_reducible exact New.refl _ | with_reducible assumption | refine New.drewN ?_ _ | refine New.drew ?_ | refine New.alloc ?_ _ | refine New.setCell ?_ (by first | omega | (simp; omega) | (simp; done)) _ | (refine New.trans ?_ (by assumption))))) zc hg); clear ho hg hb' hlt'))
      go_roundw
      case rel => exact ⟨j + 1, k - 1, xs ++ [x], by go_num, by omega, by simp [hlen], by have := C7.out; exact this.mono (by omega), by rw [List.map_append]; exact RO7.out, G7.out⟩
      case measure => simp [intOf]; omega
    · obtain rfl : k = 0 := by omega
      go_wp2_with fail
      refine (pick_any _ c (K + 4 + 2 * j) 16 CR.out (by omega) (by omega)).mono ?_
      rintro e w3 ⟨z, rfl, -, hcc, hch⟩
      have C3 := Lib.hid hcc
      have R3 := Lib.hid (RowD.own ⟨j, xs, by omega, ownsRow_chg RO.out hch (fun b hb => by omega)⟩ : RowO w3 lo u3)
      have R3' := Lib.hid (ownsRow_chg RO.out hch (fun b hb => by omega))
      have G3 := Lib.hid (GR.out.trans hch)
      clear hcc hch CR RO GR
      have zlo : lo ≤ w3.heap.size := by have := G3.out.size; have := HL.out; omega
      by_cases e0 : z = 0
      · subst e0
        have hj1 : 0 < j := by omega
        obtain ⟨oa, oc, eu, ow⟩ := Own.of_row R3'.out
        subst eu
        have OW := Lib.hid ow
        clear ow R3 R3'
        go_wp2_with fail
        refine (among_any _ c _ _ _ _ [1, 60, 61, -1, 4611686018427387904] (C3.out.new (by repeat (first | with_reducible exact New.refl _ | with_reducible assumption | refine New.drewN ?_ _ | refine New.drew ?_ | refine New.alloc ?_ _ | refine New.setCell ?_ (by first | omega | (simp; omega) | (simp; done)) _ | (refine New.trans ?_ (by assumption))))) (ints_at' _ _ _ rfl (by decide)) (fun b o e => by cases e; omega) (by decide) (by decide) (by omega)).mono ?_
        rintro e w4 ⟨y, rfl, -, hcc, hch⟩
        have C4 := Lib.hid hcc
        have O4 := Lib.hid ((OW.out.new ((New.refl w3).alloc _)).chg hch (fun b h1 _ => by omega))
        have G4 := Lib.hid ((G3.out.alloc _).trans hch)
        clear hcc hch C3 OW G3
        obtain ⟨b, eb, hb1, hb2, hb3, hcells⟩ := O4.out.row hj1
        subst eb
        obtain ⟨hc0, hf0⟩ := hcells 0 hj1
        have hlo := HL.out
        have CK := Lib.hid (Cur.store (p := ⟨b, 0, none⟩) (C4.out.mono (K' := K + 40) (by omega)) (by simp only; omega) (.int .i64 y))
        have GK := Lib.hid (Chg.put (p := ⟨b, 0, none⟩) G4.out (by simp only; omega) (.int .i64 y))
        have OK := Lib.hid (O4.out.store hj1 y)
        clear hlo hcells
        go_wp2
        go_ret
        exact ⟨_, rfl, ⟨_, _, _, _, _, rfl, by omega, by rw [← HL.out]; exact OK.out⟩, CK.out, GK.out⟩
      · by_cases e1 : z = 1
        · subst e1
          go_wp2
          go_ret
          exact ⟨_, rfl, RowO.nil _ _, C3.out.mono (by omega), G3.out⟩
        · by_cases e2 : z = 2
          · subst e2
            go_wp2
            go_ret
            exact ⟨_, rfl, by rw [← HL.out]; exact row_lit w3 [60, 60, 60, 60, 60, 60] rfl zlo (by decide), (C3.out.new ((New.refl _).alloc _)).mono (by omega), G3.out.alloc _⟩
          · by_cases e3 : z = 3
            · subst e3
              go_wp2
              go_ret
              exact ⟨_, rfl, by rw [← HL.out]; exact row_lit w3 [2, 2, 2, 2, 2, 2, 2] rfl zlo (by decide), (C3.out.new ((New.refl _).alloc _)).mono (by omega), G3.out.alloc _⟩
            · go_wp2
              go_ret
              exact ⟨_, rfl, by rw [← HL.out]; exact R3.out, C3.out.mono (by omega), G3.out⟩
end Go.Proofs.Ytbgbglalibjncaa
