/- The model's ReverseFlight. -/
import Derived.Test.YtejmmahjolkcgaaRev
import Derived.Test.YtejmmahjolkcgaaFlM
import Derived.Test.YtejmmahjolkcgaaRows2
namespace Go.Proofs.Ytejmmahjolkcgaa
open Go.RowKit

def rvL (F : List Bool) : List Bool := F.reverse.map (fun b => !b)
def revM (L : List Int) (F : List Bool) : List Int × List Bool := if fliB L F = true then (L.reverse, rvL F) else ([], [])
theorem revM_no {L : List Int} {F : List Bool} (h : fliB L F = false) : revM L F = ([], []) := by unfold revM; rw [if_neg (by rw [h]; decide)]
theorem rvL_get (F : List Bool) {n x : Nat} (hn : n = F.length) (hx : x < n) : (rvL F)[x]?.getD false = !(F[n - 1 - x]?.getD false) := by
  subst hn
  unfold rvL
  rw [List.getElem?_map, List.getElem?_reverse hx, List.getElem?_eq_getElem (show F.length - 1 - x < F.length by omega)]
  simp
theorem revM_small (L : List Int) (F : List Bool) : (revM L F).1.length ≤ 6 ∧ (revM L F).2.length ≤ 6 := by
  unfold revM
  split
  · rename_i h
    obtain ⟨h1, h2, _⟩ := fliB_iff.1 h
    exact ⟨by simpa using h1.2, by simp [rvL]; omega⟩
  · exact ⟨by simp, by simp⟩

structure BothF (w : World) (B : Nat) (wr : World) (vS vH : Value) (a b : Nat) (xs : List Int) (ys : List Bool) : Prop where
  new : New w wr
  lo : w.heap.size ≤ B
  s : RowAt B wr 0 3 1 vS a ((xs.take a).map (Value.int .i64))
  h : RowAt B wr 1 4 1 vH b ((ys.take b).map Value.bool)
  apart : ∀ g, vS.ownBlock = some g → vH.ownBlock ≠ some g
theorem BothF.kept {w wr wr' : World} {B : Nat} {vS vH : Value} {a b : Nat} {xs : List Int} {ys : List Bool} (h : BothF w B wr vS vH a b xs ys) (k : New wr wr') : BothF w B wr' vS vH a b xs ys :=
  ⟨h.new.trans k, h.lo, h.s.new k, h.h.new k, h.apart⟩
theorem take_put {l : List Int} {k : Nat} (hk : k < l.length) {z : Int} (e : l[k]?.getD 0 = z) : (l.take k).map (Value.int .i64) ++ [Value.int .i64 z] = (l.take (k + 1)).map (Value.int .i64) := by
  subst e
  rw [List.take_succ_eq_append_getElem hk, List.map_append]
  simp [List.getElem?_eq_getElem hk]
theorem BothF.first {w wr w' : World} {B : Nat} {vS vH : Value} {a b g cap : Nat} {xs : List Int} {ys : List Bool} {z : Int} (h : BothF w B wr vS vH a b xs ys) (ha : a < xs.length) (e : xs[a]?.getD 0 = z)
    (ho : w'.ownsRow (B + 1) 3 1 (.slice (some ⟨g, 0, none⟩) (a + 1) cap) (a + 1) ((xs.take a).map (Value.int .i64) ++ [.int .i64 z])) (hg : wr.grownBy w' vS.ownBlock) (hb : vS.ownBlock = some g ∨ g = wr.heap.size) :
    BothF w B (w'.setCell ⟨B, 0, none⟩ (.slice (some ⟨g, 0, none⟩) (a + 1) cap)) (.slice (some ⟨g, 0, none⟩) (a + 1) cap) vH (a + 1) b xs ys where
  new := h.s.frame h.new h.lo hg ho
  lo := h.lo
  s := by rw [← take_put ha e]; exact h.s.grown hg ho
  h := h.s.beside h.h (by omega) (fun g e e' => h.apart g e' e) hg ho
  apart := fun g' e' e => (h.h.apart (fun g e e' => h.apart g e' e) hb) g' e e'
theorem take_putB {l : List Bool} {k : Nat} (hk : k < l.length) {z : Bool} (e : l[k]?.getD false = z) : (l.take k).map Value.bool ++ [Value.bool z] = (l.take (k + 1)).map Value.bool := by
  subst e
  rw [List.take_succ_eq_append_getElem hk, List.map_append]
  simp [List.getElem?_eq_getElem hk]
theorem BothF.second {w wr w' : World} {B : Nat} {vS vH : Value} {a b g cap : Nat} {xs : List Int} {ys : List Bool} {z : Bool} (h : BothF w B wr vS vH a b xs ys) (ha : b < ys.length) (e : ys[b]?.getD false = z)
    (ho : w'.ownsRow (B + 1) 4 1 (.slice (some ⟨g, 0, none⟩) (b + 1) cap) (b + 1) ((ys.take b).map Value.bool ++ [.bool z])) (hg : wr.grownBy w' vH.ownBlock) (hb : vH.ownBlock = some g ∨ g = wr.heap.size) :
    BothF w B (w'.setCell ⟨B, 1, none⟩ (.slice (some ⟨g, 0, none⟩) (b + 1) cap)) vS (.slice (some ⟨g, 0, none⟩) (b + 1) cap) a (b + 1) xs ys where
  new := h.h.frame h.new h.lo hg ho
  lo := h.lo
  s := h.h.beside h.s (by omega) h.apart hg ho
  h := by rw [← take_putB ha e]; exact h.h.grown hg ho
  apart := (h.s.apart h.apart hb)
theorem BothF.own {w wr : World} {B : Nat} {vS vH : Value} {a b : Nat} {xs : List Int} {ys : List Bool} (h : BothF w B wr vS vH a b xs ys) (ha : xs.length ≤ a) (hb : ys.length ≤ b) :
    ∃ sa sc sb sd, vS = .slice sa a sc ∧ vH = .slice sb b sd ∧ OwnF wr w.heap.size wr.heap.size sa a sc sb b sd xs ys := by
  have hs := h.s.own
  have hh := h.h.own
  rw [List.take_of_length_le ha] at hs
  rw [List.take_of_length_le hb] at hh
  obtain ⟨sa, sc, rfl, o1⟩ := Own.of_row hs
  obtain ⟨sb, sd, rfl, o2⟩ := OwnBo.of_row hh
  have hlo := h.lo
  refine ⟨sa, sc, sb, sd, rfl, rfl, o1.mono (by omega) (Nat.le_refl _), o2.mono (by omega) (Nat.le_refl _), fun _ _ e => ?_⟩
  cases sa with
  | none => cases sb with
    | none => rename_i n1 _; exact absurd (o1.has n1 rfl) (by simp)
    | some b => simp [blkOf] at e
  | some a => cases sb with
    | none => simp [blkOf] at e
    | some b =>
      simp [blkOf] at e
      exact h.apart a.block rfl (by simp [Value.ownBlock, e])

set_option maxRecDepth 100000 in
set_option maxHeartbeats 4000000 in
theorem sReverseFlight_any (w : World) (aa ab : Option Addr) (n m ca cb : Nat) (L : List Int) (F : List Bool) (h1 : Ints w aa n ca L) (h2 : Bools w ab m cb F) : Calls Try.prog 21 #[.agg #[.slice aa n ca, .slice ab m cb]] w (RetFl w (revM L F).1 (revM L F).2 (fliB L F)) := by
  have hn := h1.len
  have hm := h2.len
  have HA := Lib.hid h1; clear h1
  have HB := Lib.hid h2; clear h2
  cases hf : fliB L F
  case false =>
    rw [revM_no hf]
    have HF := Lib.hid hf; clear hf hn hm
    go_enter Try.func21, Try.ntmps21
    go_wp2_with fail
    refine (sGood_any _ _ _ _ _ _ _ L F (HA.out.new (by repeat (first | with_reducible exact New.refl _ | with_reducible assumption | refine New.drewN ?_ _ | refine New.drew ?_ | refine New.alloc ?_ _ | refine New.setCell ?_ (by first | omega | (simp; omega) | (simp; done)) _ | (refine New.trans ?_ (by assumption))))) (HB.out.new (by repeat (first | with_reducible exact New.refl _ | with_reducible assumption | refine New.drewN ?_ _ | refine New.drew ?_ | refine New.alloc ?_ _ | refine New.setCell ?_ (by first | omega | (simp; omega) | (simp; done)) _ | (refine New.trans ?_ (by assumption)))))).mono ?_
    rintro e w1 ⟨rfl, n1⟩
    have RS : Hid (Res2 w1 (w.heap.size + 1)) := Lib.hid ⟨n1.cell (by simp [go_sem]), n1.cell (by simp [go_sem]), n1.frz (v := .slice none 0 0) (by simp [go_sem]) (by simp [go_sem]), n1.frz (v := .slice none 0 0) (by simp [go_sem]) (by simp [go_sem])⟩
    have NW := Lib.hid (show New w w1 from New.trans (by repeat (first | with_reducible exact New.refl _ | with_reducible assumption | refine New.drewN ?_ _ | refine New.drew ?_ | refine New.alloc ?_ _ | refine New.setCell ?_ (by first | omega | (simp; omega) | (simp; done)) _ | (refine New.trans ?_ (by assumption)))) n1); clear n1
    rw [HF.out]
    obtain ⟨r0, r1, f0, f1⟩ := RS.out
    go_wp2
    refine bodyPost_ret (v := .tuple #[.agg #[.slice none 0 0, .slice none 0 0], .bool false]) (by simp [results, Try.results21, go_sem, r0, r1]) rfl ⟨none, 0, 0, none, 0, 0, rfl, OwnF.nil _ _ _, (NW.out.setCell (by first | omega | (simp; omega) | (simp; done)) _).setCell (by first | omega | (simp; omega) | (simp; done)) _⟩
  case true =>
    obtain ⟨hl1, hl2, _⟩ := fliB_iff.1 hf
    have R : revM L F = (L.reverse, rvL F) := by unfold revM; rw [if_pos hf]
    rw [R]
    clear R
    have hmn : m = n := by omega
    subst hmn
    have k1 : 1 ≤ m := by omega
    have k6 : m ≤ 6 := by omega
    have HN := Lib.hid hn; have HM := Lib.hid hm
    have HF := Lib.hid hf; clear hf hn hm hl1 hl2
    obtain ⟨i0, hi, hz0, hz1, hz2⟩ := info_parts Try.infoInt
    obtain ⟨i1, hj, hy0, hy1, hy2⟩ := info_parts Try.infoBool
    go_enter Try.func21, Try.ntmps21
    go_wp2_with fail
    refine (sGood_any _ _ _ _ _ _ _ L F (HA.out.new (by repeat (first | with_reducible exact New.refl _ | with_reducible assumption | refine New.drewN ?_ _ | refine New.drew ?_ | refine New.alloc ?_ _ | refine New.setCell ?_ (by first | omega | (simp; omega) | (simp; done)) _ | (refine New.trans ?_ (by assumption))))) (HB.out.new (by repeat (first | with_reducible exact New.refl _ | with_reducible assumption | refine New.drewN ?_ _ | refine New.drew ?_ | refine New.alloc ?_ _ | refine New.setCell ?_ (by first | omega | (simp; omega) | (simp; done)) _ | (refine New.trans ?_ (by assumption)))))).mono ?_
    rintro e w1 ⟨rfl, n1⟩
    have a0 : w1.cell? ⟨w.heap.size, 0, none⟩ = some (.slice aa m ca) := n1.cell (by simp [go_sem])
    have a1 : w1.cell? ⟨w.heap.size, 1, none⟩ = some (.slice ab m cb) := n1.cell (by simp [go_sem])
    have RS : Hid (Res2 w1 (w.heap.size + 1)) := Lib.hid ⟨n1.cell (by simp [go_sem]), n1.cell (by simp [go_sem]), n1.frz (v := .slice none 0 0) (by simp [go_sem]) (by simp [go_sem]), n1.frz (v := .slice none 0 0) (by simp [go_sem]) (by simp [go_sem])⟩
    have N1 := Lib.hid (show New w w1 from New.trans (by repeat (first | with_reducible exact New.refl _ | with_reducible assumption | refine New.drewN ?_ _ | refine New.drew ?_ | refine New.alloc ?_ _ | refine New.setCell ?_ (by first | omega | (simp; omega) | (simp; done)) _ | (refine New.trans ?_ (by assumption)))) n1); clear n1
    rw [HF.out]
    have zr := RS.out.lt
    have zr2 : w.heap.size < w1.heap.size := by omega
    have hw1 : IntKind.i64.wrap ((m : Int) - 1) = (m : Int) - 1 := IntWalk.i64_in _ (by omega)
    go_wp2_with fail
    clear hw1
    obtain ⟨u1, hu1⟩ : ∃ xx : World, xx = w1.alloc (.cells #[.slice none 0 0, .slice none 0 0] 27) := ⟨_, rfl⟩
    rw [← hu1]
    obtain ⟨B, hB⟩ : ∃ b, b = w1.heap.size := ⟨_, rfl⟩
    rw [← hB]
    have zB : w.heap.size + 1 < B := by omega
    have BO0 := Lib.hid (show BothF w1 B u1 (.slice none 0 0) (.slice none 0 0) 0 0 L.reverse (rvL F) from
      { new := by rw [hu1]; exact (by repeat (first | with_reducible exact New.refl _ | with_reducible assumption | refine New.drewN ?_ _ | refine New.drew ?_ | refine New.alloc ?_ _ | refine New.setCell ?_ (by first | omega | (simp; omega) | (simp; done)) _ | (refine New.trans ?_ (by assumption)))), lo := by omega, s := ⟨by rw [hu1, hB]; simp, by rw [hu1, hB]; simp, World.ownsRow_nil _ _ _ _⟩, h := ⟨by rw [hu1, hB]; simp, by rw [hu1, hB]; simp, World.ownsRow_nil _ _ _ _⟩, apart := fun g e => by simp [Value.ownBlock] at e })
    clear hu1 hB
    go_loopw [5] (fun i wr => ∃ (k : Nat) (vS vH : Value), k ≤ m ∧ i = .int .i64 ((m : Int) - 1 - (k : Int)) ∧ BothF w1 B wr vS vH k k L.reverse (rvL F)) (fun i _ => (intOf i + 1).toNat)
    case atStart => exact ⟨0, _, _, Nat.zero_le _, by simp, BO0.out⟩
    case round =>
      obtain ⟨k, vS, vH, hk, rfl, hbo⟩ := hrel
      have BO := Lib.hid hbo; clear hbo
      have c0 := BO.out.s.cell
      have c1 := BO.out.h.cell
      have f0 := BO.out.s.warm
      have f1 := BO.out.h.warm
      have zb := BO.out.s.lt
      have A0 := Lib.hid (And.intro a0 a1)
      replace a0 := BO.out.new.cell a0
      replace a1 := BO.out.new.cell a1
      have zA : w.heap.size < wr.heap.size := by omega
      by_cases hlt : k < m
      · obtain ⟨j, hj⟩ : ∃ j : Nat, (m : Int) - 1 - (k : Int) = (j : Int) := ⟨m - 1 - k, by omega⟩
        rw [hj]
        have hjm : j < m := by omega
        have HJ := Lib.hid hj; clear hj
        obtain ⟨ba, oa, rfl, gc, _⟩ := (HA.out.new (N1.out.trans BO.out.new)).at hjm
        obtain ⟨bb, ob, rfl, gd, _⟩ := (HB.out.new (N1.out.trans BO.out.new)).at hjm
        obtain ⟨x, hx⟩ : ∃ x, x = L[j]?.getD 0 := ⟨_, rfl⟩
        obtain ⟨y, hy⟩ : ∃ y, y = F[j]?.getD false := ⟨_, rfl⟩
        rw [← hx] at gc
        rw [← hy] at gd
        have ES1 := Lib.hid (show L.reverse[k]?.getD 0 = x by rw [rev_getInt L HN.out hlt, show m - 1 - k = j by have := HJ.out; omega, hx])
        have EH1 := Lib.hid (show (rvL F)[k]?.getD false = !y by rw [rvL_get F HM.out hlt, show m - 1 - k = j by have := HJ.out; omega, hy])
        have HY := Lib.hid hy
        clear hx hy
        have LL := Lib.hid (show k < L.reverse.length ∧ k < (rvL F).length from ⟨by rw [List.length_reverse, ← HN.out]; exact hlt, by unfold rvL; rw [List.length_map, List.length_reverse, ← HM.out]; exact hlt⟩)
        have vj : (0 : Int) ≤ (j : Int) := by omega
        have hwj : IntKind.i64.wrap ((j : Int) - 1) = (m : Int) - 1 - ((k + 1 : Nat) : Int) := (IntWalk.i64_in _ (by omega)).trans (by have := HJ.out; omega)
        go_upto_region 7 with fail
        go_region_law (refine step_append_lies _ (by rfl) (.tmp 20) (.tmp 26) 22 (by rfl) (B + 1) 3 i0 (.int .i64 0) 1 8 Try.underlying22 hi hz0 hz1 hz2 rfl (by decide) vS k _ (by rfl) (ownsRow_new BO.out.s.own (by repeat (first | with_reducible exact New.refl _ | with_reducible assumption | refine New.drewN ?_ _ | refine New.drew ?_ | refine New.alloc ?_ _ | refine New.setCell ?_ (by first | omega | (simp; omega) | (simp; done)) _ | (refine New.trans ?_ (by assumption))))) _ _ _ [.int .i64 x] (by rfl) (by rfl) (World.news_of_block (cs := #[.int .i64 x]) (t := 3) (fr := (0, 0)) (heap_alloc_new wr _)) (by simp [Value.oneCell']) (by omega) (by unfold maxLen; omega) (by omega) (by simp; omega) _ rfl ?_; intro g cap w' ho hg hb' hlt'; have kk := (BO.out.s.new (by repeat (first | with_reducible exact New.refl _ | with_reducible assumption | refine New.drewN ?_ _ | refine New.drew ?_ | refine New.alloc ?_ _ | refine New.setCell ?_ (by first | omega | (simp; omega) | (simp; done)) _ | (refine New.trans ?_ (by assumption))))).keep hg (World.cell_kept c0) (New.frz (by repeat (first | with_reducible exact New.refl _ | with_reducible assumption | refine New.drewN ?_ _ | refine New.drew ?_ | refine New.alloc ?_ _ | refine New.setCell ?_ (by first | omega | (simp; omega) | (simp; done)) _ | (refine New.trans ?_ (by assumption)))) c0 f0); obtain ⟨k1, k2⟩ := kk)
        all_goals
          have b2 := (BO.out.kept (by repeat (first | with_reducible exact New.refl _ | with_reducible assumption | refine New.drewN ?_ _ | refine New.drew ?_ | refine New.alloc ?_ _ | refine New.setCell ?_ (by first | omega | (simp; omega) | (simp; done)) _ | (refine New.trans ?_ (by assumption))))).first LL.out.1 ES1.out ho hg hb'
          obtain ⟨W2, hW2⟩ : ∃ W2, W2 = w'.setCell ⟨B, 0, none⟩ (.slice (some ⟨g, 0, none⟩) (k + 1) cap) := ⟨_, rfl⟩
          rw [← hW2] at b2 ⊢
          have B2 := Lib.hid b2
          replace c0 := b2.s.cell
          replace c1 := b2.h.cell
          replace f0 := b2.s.warm
          replace f1 := b2.h.warm
          replace zb := b2.s.lt
          have zz : w.heap.size < W2.heap.size := by omega
          have N2 := Lib.hid b2.new
          replace a0 := b2.new.cell A0.out.1
          replace a1 := b2.new.cell A0.out.2
          clear b2 gd k1 k2 ho hg hb' hlt' gc hW2
          obtain ⟨_, _, e2, gd, _⟩ := (HB.out.new (N1.out.trans N2.out)).at hjm
          cases e2
          rw [← HY.out] at gd
          go_upto_region 8 with fail
          go_region_law (refine step_append_lies _ (by rfl) (.tmp 30) (.tmp 37) 23 (by rfl) (B + 1) 4 i1 (.bool false) 1 1 Try.underlying23 hj hy0 hy1 hy2 rfl (by decide) vH k _ (by rfl) (ownsRow_new B2.out.h.own (by repeat (first | with_reducible exact New.refl _ | with_reducible assumption | refine New.drewN ?_ _ | refine New.drew ?_ | refine New.alloc ?_ _ | refine New.setCell ?_ (by first | omega | (simp; omega) | (simp; done)) _ | (refine New.trans ?_ (by assumption))))) _ _ _ [.bool (!y)] (by rfl) (by rfl) (World.news_of_block (cs := #[.bool (!y)]) (t := 4) (fr := (0, 0)) (heap_alloc_new W2 _)) (by simp [Value.oneCell']) (by omega) (by unfold maxLen; omega) (by omega) (by simp; omega) _ rfl ?_; intro g3 cap3 w3 ho3 hg3 hb3 hlt3; have kk := (B2.out.h.new (by repeat (first | with_reducible exact New.refl _ | with_reducible assumption | refine New.drewN ?_ _ | refine New.drew ?_ | refine New.alloc ?_ _ | refine New.setCell ?_ (by first | omega | (simp; omega) | (simp; done)) _ | (refine New.trans ?_ (by assumption))))).keep hg3 (World.cell_kept c1) (New.frz (by repeat (first | with_reducible exact New.refl _ | with_reducible assumption | refine New.drewN ?_ _ | refine New.drew ?_ | refine New.alloc ?_ _ | refine New.setCell ?_ (by first | omega | (simp; omega) | (simp; done)) _ | (refine New.trans ?_ (by assumption)))) c1 f1); obtain ⟨k3, k4⟩ := kk)
          all_goals
            have b3 := (B2.out.kept (by repeat (first | with_reducible exact New.refl _ | with_reducible assumption | refine New.drewN ?_ _ | refine New.drew ?_ | refine New.alloc ?_ _ | refine New.setCell ?_ (by first | omega | (simp; omega) | (simp; done)) _ | (refine New.trans ?_ (by assumption))))).second LL.out.2 EH1.out ho3 hg3 hb3
            go_wp2
            go_roundw
            case rel => exact ⟨k + 1, _, _, by omega, rfl, b3⟩
            case measure => have hj9 := HJ.out; simp [intOf]; omega
      · obtain rfl : k = m := by omega
        have vj : ¬ (0 : Int) ≤ (k : Int) - 1 - (k : Int) := by omega
        obtain ⟨sa, sc, sb, sd, rfl, rfl, ov⟩ := BO.out.own (by rw [List.length_reverse, ← HN.out]; exact Nat.le_refl _) (by unfold rvL; rw [List.length_map, List.length_reverse, ← HM.out]; exact Nat.le_refl _)
        have OV := Lib.hid ov; clear ov
        obtain ⟨r0, r1, f2, f3⟩ := RS.out.new BO.out.new
        go_wp2
        have nn := N1.out.trans BO.out.new
        have zm := BO.out.new.size
        have zn := N1.out.size
        refine bodyPost_ret (v := .tuple #[.agg #[.slice sa k sc, .slice sb k sd], .bool true]) (by simp [results, Try.results21, go_sem, r0, r1]) rfl ⟨_, _, _, _, _, _, rfl, ?_, (nn.setCell (by first | omega | (simp; omega) | (simp; done)) _).setCell (by first | omega | (simp; omega) | (simp; done)) _⟩
        exact ((OV.out.setCell (p := ⟨w.heap.size + 1, 0, none⟩) (.inl (by dsimp only; omega)) _).setCell (p := ⟨w.heap.size + 1, 1, none⟩) (.inl (by dsimp only; omega)) _).mono (by omega) (by simp)
end Go.Proofs.Ytejmmahjolkcgaa
