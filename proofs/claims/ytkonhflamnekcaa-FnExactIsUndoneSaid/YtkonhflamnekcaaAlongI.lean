/- What is held along moves, the program's: holdingsAlong. -/
import Derived.Test.YtkonhflamnekcaaAlong
import Derived.Test.YtkonhflamnekcaaOnI2
import Derived.WalkMore
import Derived.StillTailTactics
namespace Go.Proofs.Ytkonhflamnekcaa
open Go.RowKit

theorem Box5.grown {W W' : World} {B : Nat} {H : List Int} {row : Option Nat} (h : Box5 W B H) (k : W.grownBy W' row) (hb : some B ≠ row) : Box5 W' B H :=
  ⟨Nat.lt_of_lt_of_le h.lt k.size, fun i hi => k.cell (h.cell i hi) hb, fun i => (k.frozen_far ⟨B, i, none⟩ h.lt hb).trans (h.frozen i)⟩
theorem Try.infoHold : (Try.prog.info? 72).map (fun i => (i.zero, i.size, i.bytes)) = some (some (.agg #[.int .i64 0, .int .i64 0, .int .i64 0, .int .i64 0, .int .i64 0]), 5, 40) := by kernel_rfl

/-- A slice of n arrays of five, in a row of the call's own, array j holding A j. -/
def Fives (w : World) (lo : Nat) (v : Value) (n : Nat) (A : Nat → List Int) : Prop := ∃ b cap, v = .slice (some ⟨b, 0, none⟩) n cap ∧ n ≤ cap ∧ lo ≤ b ∧ b < w.heap.size ∧ ∀ j, j < n → ∀ i, i < 5 → w.cell? ⟨b, j * 5 + i, none⟩ = some (.int .i64 ((A j)[i]?.getD 0))
theorem Fives.new {w w' : World} {lo n : Nat} {v : Value} {A : Nat → List Int} (h : Fives w lo v n A) (k : New w w') : Fives w' lo v n A := by
  obtain ⟨b, cap, e, hc, hl, hb, hf⟩ := h
  exact ⟨b, cap, e, hc, hl, Nat.lt_of_lt_of_le hb k.size, fun j hj i hi => k.cell (hf j hj i hi)⟩
theorem Fives.of_row {w : World} {base : Nat} {v : Value} {n : Nat} {A : Nat → List Int} (h : w.ownsRow base 72 5 v n (flat5 A n)) (hn : 0 < n) : Fives w base v n A := by
  obtain ⟨_, h⟩ := h
  rcases h with ⟨rfl, rfl⟩ | ⟨g, cap, cur, rfl, hb, hh, hc, hm, hs, ht⟩
  · omega
  · refine ⟨g, cap, rfl, hc, hb, (Array.getElem?_eq_some_iff.1 hh).1, fun j hj i hi => ?_⟩
    have e := flat5_get A hj hi
    rw [← ht, List.getElem?_take, if_pos (by omega)] at e
    rw [cell_of_row w g _ cur _ (0, 0) hh]
    simpa using e

def RetF (w : World) (A : Nat → List Int) (n : Nat) (ok : Bool) (e : Ending) (w' : World) : Prop :=
  New w w' ∧ ((ok = true ∧ ∃ v, e = .returned (.tuple #[v, .bool true]) ∧ Fives w' w.heap.size v n A) ∨ (ok = false ∧ e = .returned (.tuple #[.slice none 0 0, .bool false])))

set_option maxRecDepth 100000 in
set_option maxHeartbeats 8000000 in
theorem holdingsAlong_good (w : World) (aa ab ma : Option Addr) (n m ca cb mn mc : Nat) (S H : List Int) (L : List (Int × Int)) (h1 : Ints w aa n ca S) (h2 : Ints w ab m cb H) (h3 : Pairs w ma mn mc L) (hG : Good S H) (h100 : L.length ≤ 100) :
    Calls Try.prog 45 #[.agg #[.slice aa n ca, .slice ab m cb], .slice ma mn mc] w (RetF w (along S H L) (L.length + 1) (movesB S H L)) := by
  have hg := goodB_iff.2 hG
  have hn := h1.len
  have hmn := h3.len
  have q5 : n ≤ 5 := by have := hG.1; omega
  have q1 : 1 ≤ n := by have := hG.1; omega
  have qm : mn ≤ 100 := by omega
  have HA := Lib.hid h1; clear h1
  have HB := Lib.hid h2; clear h2
  have HM := Lib.hid h3; clear h3
  have HGG := Lib.hid hG; clear hG
  have H100 := Lib.hid h100; clear h100
  have HN := Lib.hid (And.intro hn hmn); clear hn hmn
  obtain ⟨i0, hi, hz0, hz1, hz2⟩ := info_parts Try.infoHold
  go_enter Try.func45, Try.ntmps45
  go_wp2
  go_step3
  go_wp2_with fail
  refine (iAreVessels_any _ _ _ _ _ _ _ _ _ (HA.out.new (by repeat (first | with_reducible exact New.refl _ | with_reducible assumption | refine New.drewN ?_ _ | refine New.drew ?_ | refine New.alloc ?_ _ | refine New.setCell ?_ (by first | omega | (simp; omega) | (simp; done)) _ | (refine New.trans ?_ (by assumption))))) (HB.out.new (by repeat (first | with_reducible exact New.refl _ | with_reducible assumption | refine New.drewN ?_ _ | refine New.drew ?_ | refine New.alloc ?_ _ | refine New.setCell ?_ (by first | omega | (simp; omega) | (simp; done)) _ | (refine New.trans ?_ (by assumption)))))).mono ?_
  rintro e w1 ⟨rfl, n1⟩
  have a0 : w1.cell? ⟨w.heap.size, 0, none⟩ = some (.slice aa n ca) := n1.cell (by simp [go_sem])
  have a1 : w1.cell? ⟨w.heap.size, 1, none⟩ = some (.slice ab m cb) := n1.cell (by simp [go_sem])
  have N1 := Lib.hid (show New w w1 from New.trans (by repeat (first | with_reducible exact New.refl _ | with_reducible assumption | refine New.drewN ?_ _ | refine New.drew ?_ | refine New.alloc ?_ _ | refine New.setCell ?_ (by first | omega | (simp; omega) | (simp; done)) _ | (refine New.trans ?_ (by assumption)))) n1); clear n1
  go_wp2_with fail
  refine (holdingOf_any _ _ _ _ _ _ _ H (HB.out.new N1.out) (by have := HGG.out.1; have := HGG.out.2.1; omega)).mono ?_
  rintro e w2 ⟨rfl, n2⟩
  have b0 := n2.cell a0
  have b1 := n2.cell a1
  have N2 := Lib.hid (N1.out.trans n2); clear n2 a0 a1
  have z2 : w.heap.size < w2.heap.size := World.block_lt_of_cell? _ _ b0
  obtain ⟨W3, hW3⟩ : ∃ W3, W3 = w2.alloc (.cells #[.int .i64 0, .int .i64 0, .int .i64 0, .int .i64 0, .int .i64 0] 72) := ⟨_, rfl⟩
  have r3 : Box5 W3 w2.heap.size [] := by
    rw [hW3]
    have hr := Box5.made w2 [] 72
    simpa using hr
  have R3 := Lib.hid r3; clear r3
  have d0 : W3.cell? ⟨w.heap.size, 0, none⟩ = some (.slice aa n ca) := by rw [hW3]; exact World.cell_kept b0
  have d1 : W3.cell? ⟨w.heap.size, 1, none⟩ = some (.slice ab m cb) := by rw [hW3]; exact World.cell_kept b1
  have N3 := Lib.hid (show New w W3 by rw [hW3]; exact N2.out.alloc _)
  obtain ⟨W4, hW4⟩ : ∃ W4, W4 = W3.setCells w2.heap.size 0 (cells5 H) := ⟨_, rfl⟩
  have r4 := R3.out.fill H
  rw [← hW4] at r4
  have hch : Chg (fun b => b = w2.heap.size) W3 W4 := by rw [hW4]; exact Chg.setCells _ _ _ _
  replace d0 := hch.cell d0 (by simp; omega)
  replace d1 := hch.cell d1 (by simp; omega)
  have N4 := Lib.hid (Chg.new N3.out hch (fun i hi => by omega))
  have H3 := Lib.hid hW3; clear hW3
  have H4 := Lib.hid hW4; clear hW4
  have R4 := Lib.hid r4; clear r4
  clear hch
  go_upto_region 4 with (refine wpList_store_mid rfl 72 _ _ rfl w2.heap.size 0 (cells5 H).toArray rfl rfl (by rw [← H3.out]; exact R3.out.room _) (by kernel_rfl) (cells5_one _) ?_)
  rw [← H3.out, ← H4.out]
  go_wp2_with (refine wpList_load_mid rfl 72 _ rfl w2.heap.size 0 rfl (cells5 H) _ R4.out.range Try.underlying72 rfl (by kernel_rfl) ?_)
  go_step3
  go_wp2
  have A2 := Lib.hid (And.intro (show w2.cell? ⟨w.heap.size, 0, none⟩ = some (.slice aa n ca) from b0) (show w2.cell? ⟨w.heap.size, 1, none⟩ = some (.slice ab m cb) from b1))
  have N24 := Lib.hid (show New w2 W4 from Chg.new (by rw [H3.out]; exact (New.refl w2).alloc _) (show Chg (fun b => b = w2.heap.size) W3 W4 by rw [H4.out]; exact Chg.setCells _ _ _ _) (fun i hi => by omega))
  have z4 : w2.heap.size < W4.heap.size := R4.out.lt
  clear d0 d1 b0 b1
  go_loopw [7, 8] (fun v i wr => ∃ k : Nat, k ≤ mn ∧ i = .int .i64 k ∧ New w2 wr ∧ Box5 wr w2.heap.size (along S H L k) ∧ Good S (along S H L k) ∧ (∀ j, j < k → moveB S.length (L[j]?.getD (0, 0)).1 (L[j]?.getD (0, 0)).2 = true) ∧ wr.ownsRow (w2.heap.size + 1) 72 5 v (k + 1) (flat5 (along S H L) (k + 1))) (fun _ i _ => mn - (intOf i).toNat)
  case atStart =>
    refine ⟨0, Nat.zero_le _, rfl, N24.out.alloc _, R4.out.new (by repeat (first | with_reducible exact New.refl _ | with_reducible assumption | refine New.drewN ?_ _ | refine New.drew ?_ | refine New.alloc ?_ _ | refine New.setCell ?_ (by first | omega | (simp; omega) | (simp; done)) _ | (refine New.trans ?_ (by assumption)))), HGG.out, fun j hj => absurd hj (by omega), by simp [flat5], .inr ⟨W4.heap.size, 1, _, rfl, by omega, heap_alloc_new _ _, by omega, by unfold maxLen; omega, rfl, rfl⟩⟩
  case round =>
    obtain ⟨k, hk, rfl, hnw, hbx, hgd, hpre, how⟩ := hrel
    have hgk := Lib.hid hgd; clear hgd
    have HP0 := Lib.hid hpre; clear hpre
    have NW := Lib.hid hnw; clear hnw
    have BX := Lib.hid hbx; clear hbx
    have HO := Lib.hid how; clear how
    have zr := NW.out.size
    have a0 := NW.out.cell A2.out.1
    have a1 := NW.out.cell A2.out.2
    by_cases hlt : k < mn
    · have hne : ((k : Int) == (mn : Int)) = false := by simp; omega
      obtain ⟨bm, om_, rfl, e0, e1⟩ := (HM.out.new (N2.out.trans NW.out)).2.2.2.1 k hlt
      obtain ⟨p, hp⟩ : ∃ p, p = L[k]?.getD (0, 0) := ⟨_, rfl⟩
      have hal := along_succ S H L k p.1 p.2 hp.symm
      rw [← hp] at e0 e1
      obtain ⟨f, t⟩ := p
      simp only at e0 e1 hal
      have HP := Lib.hid hp; clear hp
      have AL := Lib.hid hal; clear hal
      by_cases okb : moveB n f t = true
      · have OK := Lib.hid (show MoveOk S.length f t by rw [← HN.out.1]; exact moveB_iff.1 okb)
        go_wp2
        go_region_held3 (fun w' => w'.cell? ⟨w.heap.size, 0, none⟩ = some (.slice aa n ca) ∧ w'.cell? ⟨w.heap.size, 1, none⟩ = some (.slice ab m cb) ∧ w'.cell? ⟨bm, om_ + k * 2, none⟩ = some (.int .i64 f) ∧ w'.cell? ⟨bm, om_ + k * 2 + 1, none⟩ = some (.int .i64 t))
          (first | exact ⟨a0, a1, e0, e1⟩ | exact ⟨n3.cell a0, n3.cell a1, n3.cell e0, n3.cell e1⟩ | fail)
          (first | (go_at_call 61; refine (isMoveAmong_any _ n f t q5).mono ?_; rw [okb]; rintro e w5 ⟨rfl, n3⟩))
        have N5 := Lib.hid (show New wr w5 from New.trans (by repeat (first | with_reducible exact New.refl _ | with_reducible assumption | refine New.drewN ?_ _ | refine New.drew ?_ | refine New.alloc ?_ _ | refine New.setCell ?_ (by first | omega | (simp; omega) | (simp; done)) _ | (refine New.trans ?_ (by assumption)))) n3)
        replace a0 := N5.out.cell a0
        replace a1 := N5.out.cell a1
        replace e0 := N5.out.cell e0
        replace e1 := N5.out.cell e1
        have BX5 := Lib.hid (BX.out.new N5.out)
        have HO5 := Lib.hid (ownsRow_new HO.out N5.out)
        clear n3
        obtain ⟨c0, c1, c2, c3, c4⟩ := BX5.out.five
        go_upto_region 10 with fail
        go_still_tail 7, (by kernel_rfl)
        have HA5 := Lib.hid (HA.out.new ((N2.out.trans NW.out).trans N5.out))
        change wpList _ _ _ _ _ w5.drew
        obtain ⟨w6, hw6⟩ : ∃ x, x = w5.drew := ⟨_, rfl⟩
        rw [← hw6]
        have N6 := Lib.hid (show New w5 w6 by rw [hw6]; exact (New.refl _).drew)
        clear hw6 c0 c1 c2 c3 c4
        go_wp2_with fail
        refine (pour_any _ _ _ _ S (along S H L k) f t (HA5.out.new N6.out) hgk.out OK.out).mono ?_
        rw [← AL.out]
        rintro e w7 ⟨rfl, n7⟩
        have N7 := Lib.hid ((N5.out.trans N6.out).trans n7); clear n7
        have BX7 := Lib.hid (BX.out.new N7.out)
        have HO7 := Lib.hid (ownsRow_new HO.out N7.out)
        have z7 := N7.out.size
        obtain ⟨W8, hW8⟩ : ∃ W8, W8 = w7.setCells w2.heap.size 0 (cells5 (along S H L (k + 1))) := ⟨_, rfl⟩
        have c8 : Chg (fun b => b = w2.heap.size) w7 W8 := by rw [hW8]; exact Chg.setCells _ _ _ _
        have BX8 := Lib.hid (show Box5 W8 w2.heap.size (along S H L (k + 1)) by rw [hW8]; exact BX7.out.fill _)
        have HO8 := Lib.hid (ownsRow_block HO7.out fun g e => c8.block g (HO7.out.lt g e).2 (by have := (HO7.out.lt g e).1; omega))
        have N8 := Lib.hid (Chg.new (NW.out.trans N7.out) c8 (fun i hi => by omega))
        have z8 := c8.size
        have H8 := Lib.hid hW8; clear hW8 c8 a0 a1 e0 e1
        go_upto_region 11 with (refine wpList_store_mid rfl 72 _ _ rfl w2.heap.size 0 (cells5 (along S H L (k + 1))).toArray rfl rfl (BX7.out.room _) (by kernel_rfl) (cells5_one _) ?_)
        rw [← H8.out]
        go_wp2_with (first | (refine wpList_load_mid rfl 72 _ rfl w2.heap.size 0 rfl (cells5 (along S H L (k + 1))) _ BX8.out.range Try.underlying72 rfl (by kernel_rfl) ?_) | (at_builtin; refine wpList_append_lies _ (by rfl) (.tmp 46) (.tmp 48) 67 (by rfl) (w2.heap.size + 1) 72 i0 _ 5 40 Try.underlying67 hi hz0 hz1 hz2 rfl (by decide) _ _ _ (by rfl) (ownsRow_new HO8.out (by repeat (first | with_reducible exact New.refl _ | with_reducible assumption | refine New.drewN ?_ _ | refine New.drew ?_ | refine New.alloc ?_ _ | refine New.setCell ?_ (by first | omega | (simp; omega) | (simp; done)) _ | (refine New.trans ?_ (by assumption))))) _ _ _ (cells5 (along S H L (k + 1))) (by rfl) (by rfl) (World.news_of_block (cs := (cells5 (along S H L (k + 1))).toArray) (t := 72) (fr := (0, 0)) (heap_alloc_new W8 _)) (by simp [Value.oneCell']) (by omega) (by unfold maxLen; omega) (by omega) (by simp; omega) _ rfl ?_; intro g cap w' ho hg hb hlt'))
        go_roundw
        case rel =>
          refine ⟨k + 1, by omega, by go_num, New.grown (w := _) (N8.out.trans (by repeat (first | with_reducible exact New.refl _ | with_reducible assumption | refine New.drewN ?_ _ | refine New.drew ?_ | refine New.alloc ?_ _ | refine New.setCell ?_ (by first | omega | (simp; omega) | (simp; done)) _ | (refine New.trans ?_ (by assumption))))) (ownsRow_new HO8.out (by repeat (first | with_reducible exact New.refl _ | with_reducible assumption | refine New.drewN ?_ _ | refine New.drew ?_ | refine New.alloc ?_ _ | refine New.setCell ?_ (by first | omega | (simp; omega) | (simp; done)) _ | (refine New.trans ?_ (by assumption))))) (by omega) hg, ?_, by rw [AL.out]; exact hgk.out.poured OK.out, fun j hj => ?_, ho⟩
          · exact (BX8.out.new (by repeat (first | with_reducible exact New.refl _ | with_reducible assumption | refine New.drewN ?_ _ | refine New.drew ?_ | refine New.alloc ?_ _ | refine New.setCell ?_ (by first | omega | (simp; omega) | (simp; done)) _ | (refine New.trans ?_ (by assumption))))).grown hg (fun e => by have := ((ownsRow_new HO8.out (by repeat (first | with_reducible exact New.refl _ | with_reducible assumption | refine New.drewN ?_ _ | refine New.drew ?_ | refine New.alloc ?_ _ | refine New.setCell ?_ (by first | omega | (simp; omega) | (simp; done)) _ | (refine New.trans ?_ (by assumption))))).lt _ e.symm).1; omega)
          · by_cases e : j = k
            · subst e; rw [← HP.out, ← HN.out.1]; exact okb
            · exact HP0.out j (by omega)
        case measure => simp [intOf]; omega
      · have okn : moveB n f t = false := by simpa using okb
        go_wp2
        go_region_held3 (fun w' => w'.cell? ⟨w.heap.size, 0, none⟩ = some (.slice aa n ca) ∧ w'.cell? ⟨w.heap.size, 1, none⟩ = some (.slice ab m cb) ∧ w'.cell? ⟨bm, om_ + k * 2, none⟩ = some (.int .i64 f) ∧ w'.cell? ⟨bm, om_ + k * 2 + 1, none⟩ = some (.int .i64 t))
          (first | exact ⟨a0, a1, e0, e1⟩ | exact ⟨n3.cell a0, n3.cell a1, n3.cell e0, n3.cell e1⟩ | fail)
          (first | (go_at_call 61; refine (isMoveAmong_any _ n f t q5).mono ?_; rw [okn]; rintro e w5 ⟨rfl, n3⟩))
        go_wp2
        (try rw [Exit.noGoto_ret])
        go_ret2
        refine ⟨(N2.out.trans NW.out).trans (New.trans (by repeat (first | with_reducible exact New.refl _ | with_reducible assumption | refine New.drewN ?_ _ | refine New.drew ?_ | refine New.alloc ?_ _ | refine New.setCell ?_ (by first | omega | (simp; omega) | (simp; done)) _ | (refine New.trans ?_ (by assumption)))) n3), .inr ⟨?_, rfl⟩⟩
        rw [← Bool.not_eq_true]
        intro h
        have q := movesOk_at (movesB_iff.1 h).2.2 (show k < L.length by have := HN.out.2; omega)
        rw [← HP.out] at q
        rw [HN.out.1, moveB_false] at okn
        exact okn q
    · obtain rfl : k = mn := by omega
      have hne : ((k : Int) == (k : Int)) = true := by simp
      have hfv := Fives.of_row HO.out (by omega)
      obtain ⟨b, cap, rfl, hr⟩ := hfv
      have HR := Lib.hid (show Fives wr (w2.heap.size + 1) (.slice (some ⟨b, 0, none⟩) (k + 1) cap) (k + 1) (along S H L) from ⟨b, cap, rfl, hr⟩)
      clear hr
      go_wp2
      (try rw [Exit.noGoto_ret])
      go_ret2
      have hmk : movesB S H L = true := movesB_iff.2 ⟨HGG.out, H100.out, movesOk_yes fun j hj => HP0.out j (by have := HN.out.2; omega)⟩
      refine ⟨N2.out.trans NW.out, .inl ⟨hmk, _, rfl, ?_⟩⟩
      rw [← HN.out.2]
      obtain ⟨b', cap', e, q1, q2, q3⟩ := HR.out
      exact ⟨b', cap', e, q1, by have := N2.out.size; omega, q3⟩

theorem holdingsAlong_any (w : World) (aa ab ma : Option Addr) (n m ca cb mn mc : Nat) (S H : List Int) (L : List (Int × Int)) (h1 : Ints w aa n ca S) (h2 : Ints w ab m cb H) (h3 : Pairs w ma mn mc L) :
    Calls Try.prog 45 #[.agg #[.slice aa n ca, .slice ab m cb], .slice ma mn mc] w (RetF w (along S H L) (L.length + 1) (movesB S H L)) := by
  by_cases hg : goodB S H = true
  · by_cases h100 : L.length ≤ 100
    · exact holdingsAlong_good w aa ab ma n m ca cb mn mc S H L h1 h2 h3 (goodB_iff.1 hg) h100
    · have hmn := h3.len
      have hmm := h3.2.2.1
      have hno : movesB S H L = false := by unfold movesB; simp [h100]
      have h100' : 100 < mn := by omega
      have h101 : (100 : Int) < (mn : Int) := by omega
      have HA := Lib.hid h1; clear h1
      have HB := Lib.hid h2; clear h2
      clear h3 hmn h100
      have HNO := Lib.hid hno; clear hno
      go_enter Try.func45, Try.ntmps45
      go_wp2
      go_step3
      go_wp2_with fail
      refine (iAreVessels_any _ _ _ _ _ _ _ _ _ (HA.out.new (by repeat (first | with_reducible exact New.refl _ | with_reducible assumption | refine New.drewN ?_ _ | refine New.drew ?_ | refine New.alloc ?_ _ | refine New.setCell ?_ (by first | omega | (simp; omega) | (simp; done)) _ | (refine New.trans ?_ (by assumption))))) (HB.out.new (by repeat (first | with_reducible exact New.refl _ | with_reducible assumption | refine New.drewN ?_ _ | refine New.drew ?_ | refine New.alloc ?_ _ | refine New.setCell ?_ (by first | omega | (simp; omega) | (simp; done)) _ | (refine New.trans ?_ (by assumption)))))).mono ?_
      rintro e w1 ⟨rfl, n1⟩
      go_wp2
      (try rw [Exit.noGoto_ret])
      go_ret2
      exact ⟨New.trans (by repeat (first | with_reducible exact New.refl _ | with_reducible assumption | refine New.drewN ?_ _ | refine New.drew ?_ | refine New.alloc ?_ _ | refine New.setCell ?_ (by first | omega | (simp; omega) | (simp; done)) _ | (refine New.trans ?_ (by assumption)))) n1, .inr ⟨HNO.out, rfl⟩⟩
  · have hg' : goodB S H = false := by simpa using hg
    have HNO := Lib.hid (show movesB S H L = false by unfold movesB; simp [hg'])
    have HA := Lib.hid h1; clear h1
    have HB := Lib.hid h2; clear h2
    clear h3
    go_enter Try.func45, Try.ntmps45
    go_wp2
    go_step3
    go_wp2_with fail
    refine (iAreVessels_any _ _ _ _ _ _ _ _ _ (HA.out.new (by repeat (first | with_reducible exact New.refl _ | with_reducible assumption | refine New.drewN ?_ _ | refine New.drew ?_ | refine New.alloc ?_ _ | refine New.setCell ?_ (by first | omega | (simp; omega) | (simp; done)) _ | (refine New.trans ?_ (by assumption))))) (HB.out.new (by repeat (first | with_reducible exact New.refl _ | with_reducible assumption | refine New.drewN ?_ _ | refine New.drew ?_ | refine New.alloc ?_ _ | refine New.setCell ?_ (by first | omega | (simp; omega) | (simp; done)) _ | (refine New.trans ?_ (by assumption)))))).mono ?_
    rintro e w1 ⟨rfl, n1⟩
    go_wp2
    (try rw [Exit.noGoto_ret])
    go_ret2
    exact ⟨New.trans (by repeat (first | with_reducible exact New.refl _ | with_reducible assumption | refine New.drewN ?_ _ | refine New.drew ?_ | refine New.alloc ?_ _ | refine New.setCell ?_ (by first | omega | (simp; omega) | (simp; done)) _ | (refine New.trans ?_ (by assumption)))) n1, .inr ⟨HNO.out, rfl⟩⟩
end Go.Proofs.Ytkonhflamnekcaa
