/- MovesOn, the program's. -/
import Derived.Test.YtkonhflamnekcaaOnI
import Derived.Test.YtkonhflamnekcaaImpl3
namespace Go.Proofs.Ytkonhflamnekcaa
open Go.RowKit

theorem Chg.setCells (w : World) (B : Nat) : ∀ (vs : List Value) (o : Nat), Chg (fun b => b = B) w (w.setCells B o vs) := by
  intro vs
  induction vs generalizing w with
  | nil => intro o; exact Chg.refl _ _
  | cons v r ih => intro o; exact (Chg.setCell (p := ⟨B, o, none⟩) v).trans (ih _ (o + 1))
theorem allL_ok {n : Nat} {closed : Bool} {p : Int × Int} (h : p ∈ allL n closed) : MoveOk n p.1 p.2 := by
  unfold allL gridUp gridRow at h
  rw [List.mem_flatMap] at h
  obtain ⟨a, ha, hp⟩ := h
  rw [List.mem_filter, List.mem_map] at hp
  obtain ⟨⟨j, hj, rfl⟩, h2⟩ := hp
  have ha := List.mem_range.1 ha
  have hj := List.mem_range.1 hj
  simp only [twoB, decide_eq_true_eq] at h2
  refine ⟨?_, ?_, h2⟩ <;> (unfold allLo; unfold allN at ha hj; cases closed <;> simp at ha hj ⊢ <;> omega)
theorem allL_small {n : Nat} (closed : Bool) (h : n ≤ 5) : (allL n closed).length ≤ 42 := by
  have := grid_small twoB (allLo closed) (N := allN n closed) (i := allN n closed) (k := 0) (by unfold allN; split <;> omega) (Nat.le_refl _) (Nat.zero_le _)
  rw [grid_zero] at this
  exact this
theorem filter_take {α : Type} {l : List α} {p : α → Bool} {k : Nat} (hk : k < l.length) (d : α) : (l.take (k + 1)).filter p = (l.take k).filter p ++ (if p (l[k]?.getD d) = true then [l[k]?.getD d] else []) := by
  rw [List.take_succ_eq_append_getElem hk, List.filter_append, List.getElem?_eq_getElem hk]
  simp [List.filter_cons]
theorem filter_small {α : Type} (l : List α) (p : α → Bool) (k : Nat) : ((l.take k).filter p).length ≤ l.length :=
  Nat.le_trans (List.length_filter_le _ _) (by rw [List.length_take]; omega)

set_option maxRecDepth 100000 in
set_option maxHeartbeats 8000000 in
theorem iMovesOn_any (w : World) (aa ab : Option Addr) (n m ca cb : Nat) (S H : List Int) (closed : Bool) (h1 : Ints w aa n ca S) (h2 : Ints w ab m cb H) :
    Calls Try.prog 30 #[.agg #[.slice aa n ca, .slice ab m cb], .bool closed] w (RetP w (onM S H closed).1 (onM S H closed).2) := by
  have HA := Lib.hid h1; clear h1
  have HB := Lib.hid h2; clear h2
  by_cases hg : goodB S H = true
  · have hG := goodB_iff.1 hg
    have hn := HA.out.len
    have q5 : n ≤ 5 := by have := hG.1; omega
    have q1 : 1 ≤ n := by have := hG.1; omega
    have HGG := Lib.hid hG; clear hG
    rw [onM_yes closed hg]
    have HN := Lib.hid hn; clear hn
    obtain ⟨i0, hi, hz0, hz1, hz2⟩ := info_parts Try.infoMove
    go_enter Try.func30, Try.ntmps30
    go_wp2_with fail
    refine (iAreVessels_any _ _ _ _ _ _ _ _ _ (HA.out.new (by repeat (first | with_reducible exact New.refl _ | with_reducible assumption | refine New.drewN ?_ _ | refine New.drew ?_ | refine New.alloc ?_ _ | refine New.setCell ?_ (by first | omega | (simp; omega) | (simp; done)) _ | (refine New.trans ?_ (by assumption))))) (HB.out.new (by repeat (first | with_reducible exact New.refl _ | with_reducible assumption | refine New.drewN ?_ _ | refine New.drew ?_ | refine New.alloc ?_ _ | refine New.setCell ?_ (by first | omega | (simp; omega) | (simp; done)) _ | (refine New.trans ?_ (by assumption)))))).mono ?_
    rintro e w1 ⟨rfl, n1⟩
    have a0 : w1.cell? ⟨w.heap.size, 0, none⟩ = some (.slice aa n ca) := n1.cell (by simp [go_sem])
    have a1 : w1.cell? ⟨w.heap.size, 1, none⟩ = some (.slice ab m cb) := n1.cell (by simp [go_sem])
    have N1 := Lib.hid (show New w w1 from New.trans (by repeat (first | with_reducible exact New.refl _ | with_reducible assumption | refine New.drewN ?_ _ | refine New.drew ?_ | refine New.alloc ?_ _ | refine New.setCell ?_ (by first | omega | (simp; omega) | (simp; done)) _ | (refine New.trans ?_ (by assumption)))) n1); clear n1
    go_wp2_with fail
    refine (holdingOf_any _ _ _ _ _ _ _ H (HB.out.new N1.out) (by have := HGG.out.1; have := HGG.out.2.1; omega)).mono ?_
    rintro e w2 ⟨rfl, n2⟩
    have b0 := n2.cell a0
    have b1 := n2.cell a1
    have N2 := Lib.hid (N1.out.trans n2); clear n2 a0 a1
    have z2 : w.heap.size < w2.heap.size := World.block_lt_of_cell? _ _ b0
    obtain ⟨W3, hW3⟩ : ∃ W3, W3 = w2.alloc (.cells #[.int .i64 0, .int .i64 0, .int .i64 0, .int .i64 0, .int .i64 0] 72) := ⟨_, rfl⟩
    have r3 : Box5 W3 w2.heap.size [] := by
      rw [hW3]
      have hr := Box5.made w2 [] 72
      simpa using hr
    have R3 := Lib.hid r3; clear r3
    have d0 : W3.cell? ⟨w.heap.size, 0, none⟩ = some (.slice aa n ca) := by rw [hW3]; exact World.cell_kept b0
    have d1 : W3.cell? ⟨w.heap.size, 1, none⟩ = some (.slice ab m cb) := by rw [hW3]; exact World.cell_kept b1
    have N3 := Lib.hid (show New w W3 by rw [hW3]; exact N2.out.alloc _)
    obtain ⟨W4, hW4⟩ : ∃ W4, W4 = W3.setCells w2.heap.size 0 (cells5 H) := ⟨_, rfl⟩
    have r4 := R3.out.fill H
    rw [← hW4] at r4
    have hch : Chg (fun b => b = w2.heap.size) W3 W4 := by rw [hW4]; exact Chg.setCells _ _ _ _
    replace d0 := hch.cell d0 (by simp; omega)
    replace d1 := hch.cell d1 (by simp; omega)
    have N4 := Lib.hid (Chg.new N3.out hch (fun i hi => by omega))
    have H3 := Lib.hid hW3; clear hW3
    have H4 := Lib.hid hW4; clear hW4
    have R4 := Lib.hid r4; clear r4
    clear hch b0 b1
    go_upto_region 4 with (refine wpList_store_mid rfl 72 _ _ rfl w2.heap.size 0 (cells5 H).toArray rfl rfl (by rw [← H3.out]; exact R3.out.room _) (by kernel_rfl) (cells5_one _) ?_)
    rw [← H3.out, ← H4.out]
    go_wp2_with fail
    refine (movesAmong_any _ n closed q1 q5).mono ?_
    rintro e w5 ⟨ma, mn, mc, rfl, om, n5⟩
    have a0 := n5.cell d0
    have a1 := n5.cell d1
    have HM := Lib.hid om
    have HMN := Lib.hid om.1
    have hmm := om.2.2.1
    have sm := allL_small closed q5
    have NV := Lib.hid (N4.out.trans n5)
    have BX := Lib.hid (R4.out.new n5)
    have z5 : w2.heap.size < w5.heap.size := by have := BX.out.lt; omega
    clear om n5 d0 d1
    have A5 := Lib.hid (And.intro a0 a1)
    go_wp2
    go_loopw [7, 21] (fun v i wr => ∃ k : Nat, k ≤ mn ∧ i = .int .i64 k ∧ New w5 wr ∧ wr.ownsRow w5.heap.size 53 2 v (((allL n closed).take k).filter (amtB S H)).length (flat (((allL n closed).take k).filter (amtB S H)))) (fun _ i _ => mn - (intOf i).toNat)
    case atStart => exact ⟨0, Nat.zero_le _, rfl, New.refl _, World.ownsRow_nil _ _ _ _⟩
    case round =>
      obtain ⟨k, hk, rfl, hnw, how⟩ := hrel
      have NW := Lib.hid hnw; clear hnw
      have HO := Lib.hid how; clear how
      by_cases hlt : k < mn
      · have hlt' : k < (allL n closed).length := by have := HMN.out; omega
        obtain ⟨bm, om_, rfl, e0, e1⟩ := (HM.out.new NW.out).pairs.2.2.2.1 k hlt
        obtain ⟨p, hp⟩ : ∃ p, p = (allL n closed)[k]?.getD (0, 0) := ⟨_, rfl⟩
        have hmem : p ∈ allL n closed := by rw [hp, List.getElem?_eq_getElem hlt']; exact List.getElem_mem hlt'
        have ok := allL_ok hmem
        have hft := filter_take (p := amtB S H) hlt' (0, 0)
        rw [← hp] at e0 e1 hft
        obtain ⟨f, t⟩ := p
        simp only at e0 e1 ok
        have OK := Lib.hid ok; clear ok hmem
        have HP := Lib.hid hp; clear hp
        have FT := Lib.hid hft; clear hft
        have fs := filter_small (allL n closed) (amtB S H) k
        have zr := NW.out.size
        have y0 := NW.out.cell A5.out.1
        have y1 := NW.out.cell A5.out.2
        have zq : w.heap.size < wr.heap.size := by omega
        clear a0 a1
        obtain ⟨v0, v1⟩ := amt_bd HGG.out (show MoveOk S.length f t by rw [← HN.out]; exact OK.out)
        go_wp2_with (refine wpList_load_mid rfl 72 _ rfl w2.heap.size 0 rfl (cells5 H) _ ((BX.out.new (NW.out.trans (by repeat (first | with_reducible exact New.refl _ | with_reducible assumption | refine New.drewN ?_ _ | refine New.drew ?_ | refine New.alloc ?_ _ | refine New.setCell ?_ (by first | omega | (simp; omega) | (simp; done)) _ | (refine New.trans ?_ (by assumption)))))).range) Try.underlying72 rfl (by kernel_rfl) ?_)
        refine (amountIn_any _ _ _ _ S H f t (HA.out.new ((NV.out.trans NW.out).trans (by repeat (first | with_reducible exact New.refl _ | with_reducible assumption | refine New.drewN ?_ _ | refine New.drew ?_ | refine New.alloc ?_ _ | refine New.setCell ?_ (by first | omega | (simp; omega) | (simp; done)) _ | (refine New.trans ?_ (by assumption)))))) HGG.out (by rw [← HN.out]; exact OK.out)).mono ?_
        rintro e w6 ⟨rfl, n6⟩
        have N6 := Lib.hid (show New wr w6 from New.trans (by repeat (first | with_reducible exact New.refl _ | with_reducible assumption | refine New.drewN ?_ _ | refine New.drew ?_ | refine New.alloc ?_ _ | refine New.setCell ?_ (by first | omega | (simp; omega) | (simp; done)) _ | (refine New.trans ?_ (by assumption)))) n6)
        have c0 : w6.cell? ⟨wr.heap.size, 0, none⟩ = some (.int .i64 f) := n6.cell (by simp)
        have c1 : w6.cell? ⟨wr.heap.size, 1, none⟩ = some (.int .i64 t) := n6.cell (by simp)
        have HO6 := Lib.hid (ownsRow_new HO.out N6.out)
        clear n6 y0 y1 e0 e1
        by_cases hz : amt S H f t = 0
        · have ha : amtB S H (f, t) = false := by simp [amtB, hz]
          have hz' : ¬ 0 < amt S H f t := by omega
          have HZ := Lib.hid hz; clear hz
          go_wp2
          go_roundw
          case rel => exact ⟨k + 1, by omega, by go_num, NW.out.trans N6.out, by rw [FT.out, ha]; simpa using HO6.out⟩
          case measure => simp [intOf]; omega
        · have ha : amtB S H (f, t) = true := by simp [amtB, hz]
          have hz' : 0 < amt S H f t := by omega
          have zr6 := N6.out.size
          go_wp2_with (at_builtin; refine wpList_append_lies _ (by rfl) (.tmp 31) (.tmp 33) 32 (by rfl) w5.heap.size 53 i0 _ 2 16 Try.underlying32 hi hz0 hz1 hz2 rfl (by decide) _ _ _ (by rfl) (ownsRow_new HO6.out (by repeat (first | with_reducible exact New.refl _ | with_reducible assumption | refine New.drewN ?_ _ | refine New.drew ?_ | refine New.alloc ?_ _ | refine New.setCell ?_ (by first | omega | (simp; omega) | (simp; done)) _ | (refine New.trans ?_ (by assumption))))) _ _ _ (flat [(f, t)]) (by rfl) (by rfl) (World.news_of_block (cs := #[.int .i64 f, .int .i64 t]) (t := 53) (fr := (0, 0)) (heap_alloc_new _ _)) (by simp [flat, Value.oneCell']) (by omega) (by unfold maxLen; omega) (by omega) (by simp; omega) _ rfl ?_; intro g cap w' ho hg hb hlt')
          go_roundw
          case rel =>
            refine ⟨k + 1, by omega, by go_num, New.grown (w := _) ((NW.out.trans N6.out).trans (by repeat (first | with_reducible exact New.refl _ | with_reducible assumption | refine New.drewN ?_ _ | refine New.drew ?_ | refine New.alloc ?_ _ | refine New.setCell ?_ (by first | omega | (simp; omega) | (simp; done)) _ | (refine New.trans ?_ (by assumption))))) (ownsRow_new HO6.out (by repeat (first | with_reducible exact New.refl _ | with_reducible assumption | refine New.drewN ?_ _ | refine New.drew ?_ | refine New.alloc ?_ _ | refine New.setCell ?_ (by first | omega | (simp; omega) | (simp; done)) _ | (refine New.trans ?_ (by assumption))))) (Nat.le_refl _) hg, ?_⟩
            rw [FT.out, ha, if_pos rfl, List.length_append, flat_append]
            exact ho
          case measure => simp [intOf]; omega
      · obtain rfl : k = mn := by omega
        have ho := HO.out
        have e := all_on S H closed
        rw [← HN.out] at e
        rw [List.take_of_length_le (by have := HMN.out; omega), e] at ho
        obtain ⟨sa, sc, rfl, o1⟩ := OwnP.of_row ho
        have O1 := Lib.hid o1
        clear ho o1 e
        have z4 := NV.out.size
        go_wp2
        go_ret2
        exact ⟨_, _, _, rfl, O1.out.mono z4 (Nat.le_refl _), NV.out.trans NW.out⟩
  · have hg' : goodB S H = false := by simpa using hg
    rw [onM_no closed hg']
    go_enter Try.func30, Try.ntmps30
    go_wp2_with fail
    refine (iAreVessels_any _ _ _ _ _ _ _ _ _ (HA.out.new (by repeat (first | with_reducible exact New.refl _ | with_reducible assumption | refine New.drewN ?_ _ | refine New.drew ?_ | refine New.alloc ?_ _ | refine New.setCell ?_ (by first | omega | (simp; omega) | (simp; done)) _ | (refine New.trans ?_ (by assumption))))) (HB.out.new (by repeat (first | with_reducible exact New.refl _ | with_reducible assumption | refine New.drewN ?_ _ | refine New.drew ?_ | refine New.alloc ?_ _ | refine New.setCell ?_ (by first | omega | (simp; omega) | (simp; done)) _ | (refine New.trans ?_ (by assumption)))))).mono ?_
    rintro e w1 ⟨rfl, n1⟩
    have N1 := Lib.hid (show New w w1 from New.trans (by repeat (first | with_reducible exact New.refl _ | with_reducible assumption | refine New.drewN ?_ _ | refine New.drew ?_ | refine New.alloc ?_ _ | refine New.setCell ?_ (by first | omega | (simp; omega) | (simp; done)) _ | (refine New.trans ?_ (by assumption)))) n1); clear n1
    go_wp2
    go_ret2
    exact ⟨none, 0, 0, rfl, OwnP.nil _ _ _, N1.out⟩
end Go.Proofs.Ytkonhflamnekcaa
