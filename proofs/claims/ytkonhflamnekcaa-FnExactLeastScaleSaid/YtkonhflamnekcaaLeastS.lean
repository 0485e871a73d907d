/- LeastScale, the model's. -/
import Derived.Test.YtkonhflamnekcaaUpto
import Derived.Test.YtkonhflamnekcaaRows2
namespace Go.Proofs.Ytkonhflamnekcaa
open Go.RowKit

/-- Both rows, the first a and b elements of two lists. -/
structure Both (w : World) (B : Nat) (wr : World) (vS vH : Value) (a b : Nat) (xs ys : List Int) : Prop where
  new : New w wr
  lo : w.heap.size ≤ B
  s : RowAt B wr 0 3 1 vS a ((xs.take a).map (Value.int .i64))
  h : RowAt B wr 1 3 1 vH b ((ys.take b).map (Value.int .i64))
  apart : ∀ g, vS.ownBlock = some g → vH.ownBlock ≠ some g
theorem Both.kept {w wr wr' : World} {B : Nat} {vS vH : Value} {a b : Nat} {xs ys : List Int} (h : Both w B wr vS vH a b xs ys) (k : New wr wr') : Both w B wr' vS vH a b xs ys :=
  ⟨h.new.trans k, h.lo, h.s.new k, h.h.new k, h.apart⟩
theorem take_put {l : List Int} {k : Nat} (hk : k < l.length) {z : Int} (e : l[k]?.getD 0 = z) : (l.take k).map (Value.int .i64) ++ [Value.int .i64 z] = (l.take (k + 1)).map (Value.int .i64) := by
  subst e
  rw [List.take_succ_eq_append_getElem hk, List.map_append]
  simp [List.getElem?_eq_getElem hk]
theorem Both.first {w wr w' : World} {B : Nat} {vS vH : Value} {a b g cap : Nat} {xs ys : List Int} {z : Int} (h : Both w B wr vS vH a b xs ys) (ha : a < xs.length) (e : xs[a]?.getD 0 = z)
    (ho : w'.ownsRow (B + 1) 3 1 (.slice (some ⟨g, 0, none⟩) (a + 1) cap) (a + 1) ((xs.take a).map (Value.int .i64) ++ [.int .i64 z])) (hg : wr.grownBy w' vS.ownBlock) (hb : vS.ownBlock = some g ∨ g = wr.heap.size) :
    Both w B (w'.setCell ⟨B, 0, none⟩ (.slice (some ⟨g, 0, none⟩) (a + 1) cap)) (.slice (some ⟨g, 0, none⟩) (a + 1) cap) vH (a + 1) b xs ys where
  new := h.s.frame h.new h.lo hg ho
  lo := h.lo
  s := by rw [← take_put ha e]; exact h.s.grown hg ho
  h := h.s.beside h.h (by omega) (fun g e e' => h.apart g e' e) hg ho
  apart := fun g' e' e => (h.h.apart (fun g e e' => h.apart g e' e) hb) g' e e'
theorem Both.second {w wr w' : World} {B : Nat} {vS vH : Value} {a b g cap : Nat} {xs ys : List Int} {z : Int} (h : Both w B wr vS vH a b xs ys) (ha : b < ys.length) (e : ys[b]?.getD 0 = z)
    (ho : w'.ownsRow (B + 1) 3 1 (.slice (some ⟨g, 0, none⟩) (b + 1) cap) (b + 1) ((ys.take b).map (Value.int .i64) ++ [.int .i64 z])) (hg : wr.grownBy w' vH.ownBlock) (hb : vH.ownBlock = some g ∨ g = wr.heap.size) :
    Both w B (w'.setCell ⟨B, 1, none⟩ (.slice (some ⟨g, 0, none⟩) (b + 1) cap)) vS (.slice (some ⟨g, 0, none⟩) (b + 1) cap) a (b + 1) xs ys where
  new := h.h.frame h.new h.lo hg ho
  lo := h.lo
  s := h.h.beside h.s (by omega) h.apart hg ho
  h := by rw [← take_put ha e]; exact h.h.grown hg ho
  apart := (h.s.apart h.apart hb)
theorem Both.own {w wr : World} {B : Nat} {vS vH : Value} {a b : Nat} {xs ys : List Int} (h : Both w B wr vS vH a b xs ys) (ha : xs.length ≤ a) (hb : ys.length ≤ b) :
    ∃ sa sc sb sd, vS = .slice sa a sc ∧ vH = .slice sb b sd ∧ OwnV wr w.heap.size wr.heap.size sa a sc sb b sd xs ys := by
  have hs := h.s.own
  have hh := h.h.own
  rw [List.take_of_length_le ha] at hs
  rw [List.take_of_length_le hb] at hh
  obtain ⟨sa, sc, rfl, o1⟩ := Own.of_row hs
  obtain ⟨sb, sd, rfl, o2⟩ := Own.of_row hh
  have hlo := h.lo
  refine ⟨sa, sc, sb, sd, rfl, rfl, o1.mono (by omega) (Nat.le_refl _), o2.mono (by omega) (Nat.le_refl _), fun _ _ e => ?_⟩
  cases sa with
  | none => cases sb with
    | none => rename_i n1 _; exact absurd (o1.has n1 rfl) (by simp)
    | some b => simp [blkOf] at e
  | some a => cases sb with
    | none => simp [blkOf] at e
    | some b =>
      simp [blkOf] at e
      exact h.apart a.block rfl (by simp [Value.ownBlock, e])

set_option maxRecDepth 100000 in
set_option maxHeartbeats 8000000 in
theorem sLeastScale_any (w : World) (aa ab : Option Addr) (n m ca cb : Nat) (S H : List Int) (h1 : Ints w aa n ca S) (h2 : Ints w ab m cb H) :
    Calls Try.prog 39 #[.agg #[.slice aa n ca, .slice ab m cb]] w (RetWI w (leastM S H).1 (leastM S H).2.1 (leastM S H).2.2.1 (leastM S H).2.2.2) := by
  have HA := Lib.hid h1; clear h1
  have HB := Lib.hid h2; clear h2
  by_cases hg : goodB S H = true
  · have hG := goodB_iff.1 hg
    have hn := HA.out.len
    have hm := HB.out.len
    have q5 : n ≤ 5 := by have := hG.1; omega
    have q1 : 1 ≤ n := by have := hG.1; omega
    have qm : m ≤ n ∧ n ≤ m := by have := hG.2.1; omega
    have HG := Lib.hid hG; clear hG
    rw [leastM_yes hg]
    have HN := Lib.hid (And.intro hn hm); clear hn hm
    go_enter Try.func39, Try.ntmps39
    go_wp2_with fail
    refine (veGood_any _ _ _ _ _ _ _ _ _ (HA.out.new (by repeat (first | with_reducible exact New.refl _ | with_reducible assumption | refine New.drewN ?_ _ | refine New.drew ?_ | refine New.alloc ?_ _ | refine New.setCell ?_ (by first | omega | (simp; omega) | (simp; done)) _ | (refine New.trans ?_ (by assumption))))) (HB.out.new (by repeat (first | with_reducible exact New.refl _ | with_reducible assumption | refine New.drewN ?_ _ | refine New.drew ?_ | refine New.alloc ?_ _ | refine New.setCell ?_ (by first | omega | (simp; omega) | (simp; done)) _ | (refine New.trans ?_ (by assumption)))))).mono ?_
    rintro e w1 ⟨rfl, n1⟩
    have a0 : w1.cell? ⟨w.heap.size, 0, none⟩ = some (.slice aa n ca) := n1.cell (by simp [go_sem])
    have a1 : w1.cell? ⟨w.heap.size, 1, none⟩ = some (.slice ab m cb) := n1.cell (by simp [go_sem])
    have r0 : w1.cell? ⟨w.heap.size + 1, 0, none⟩ = some (.slice none 0 0) := n1.cell (by simp [go_sem])
    have r1 : w1.cell? ⟨w.heap.size + 1, 1, none⟩ = some (.slice none 0 0) := n1.cell (by simp [go_sem])
    have f0 : w1.frozen? ⟨w.heap.size + 1, 0, none⟩ = false := n1.frz (v := .slice none 0 0) (by simp [go_sem]) (by simp [go_sem])
    have f1 : w1.frozen? ⟨w.heap.size + 1, 1, none⟩ = false := n1.frz (v := .slice none 0 0) (by simp [go_sem]) (by simp [go_sem])
    have R1 := Lib.hid (And.intro r0 (And.intro r1 (And.intro f0 f1))); clear r0 r1 f0 f1
    have N1 := Lib.hid (show New w w1 from New.trans (by repeat (first | with_reducible exact New.refl _ | with_reducible assumption | refine New.drewN ?_ _ | refine New.drew ?_ | refine New.alloc ?_ _ | refine New.setCell ?_ (by first | omega | (simp; omega) | (simp; done)) _ | (refine New.trans ?_ (by assumption)))) n1); clear n1
    have z0 : w.heap.size + 1 < w1.heap.size := World.block_lt_of_cell? _ _ R1.out.1
    go_wp2
    go_loopw [5, 18] (fun d i wr => ∃ k : Nat, k ≤ n ∧ i = .int .i64 k ∧ d = .int .i64 (cdK S H k : Nat) ∧ New w1 wr ∧ wr.cell? ⟨w.heap.size, 0, none⟩ = some (.slice aa n ca) ∧ wr.cell? ⟨w.heap.size, 1, none⟩ = some (.slice ab m cb)) (fun _ i _ => n - (intOf i).toNat)
    case atStart => exact ⟨0, Nat.zero_le _, rfl, rfl, New.refl _, a0, a1⟩
    case round =>
      obtain ⟨k, hk, rfl, rfl, hnw, a0, a1⟩ := hrel
      have NW := Lib.hid hnw; clear hnw
      by_cases hlt : k < n
      · have hlt2 : k < m := by omega
        obtain ⟨s, h, es, eh, b1, b2, b3⟩ := HG.out.nats (show k < S.length by have := HN.out.1; omega)
        have b4 := (cdK_bd HG.out (show k ≤ S.length by have := HN.out.1; omega)).1
        have b5 := gcd3 (c := cdK S H k) (h := h) b1 b2
        have b6 : Nat.gcd (cdK S H k) s ≤ 1000 := by omega
        clear b5
        obtain ⟨ba, oa, rfl, gc, _⟩ := (HA.out.new (N1.out.trans NW.out)).at hlt
        obtain ⟨bb, ob, rfl, gd, _⟩ := (HB.out.new (N1.out.trans NW.out)).at hlt2
        rw [es] at gc
        rw [eh] at gd
        have HS := Lib.hid (cdK_succ S H k s h es eh); clear es eh
        go_wp2
        go_quiet ((go_at_call 68; exact Calls.quiet_of (veCommon_any _ _ _ (by omega) (by omega))))
        go_wp2
        go_roundw
        case rel => exact ⟨k + 1, by omega, by go_num, by rw [HS.out], New.drewN NW.out _, by simpa using a0, by simpa using a1⟩
        case measure => simp [intOf]; omega
      · obtain rfl : k = n := by omega
        have hcd : cdK S H k = cdV S H := by unfold cdV; rw [← HN.out.1]
        rw [hcd]
        clear hcd
        obtain ⟨hd1, hd2⟩ := cdV_bd HG.out
        obtain ⟨dv, hdv⟩ : ∃ dv : Nat, dv = cdV S H := ⟨_, rfl⟩
        rw [← hdv] at hd1 hd2 ⊢
        have HD := Lib.hid hdv; clear hdv
        obtain ⟨i0, hi, hz0, hz1, hz2⟩ := info_parts Try.infoInt
        obtain ⟨u1, rfl⟩ : ∃ u : World, u = wr := ⟨_, rfl⟩
        have zr : w.heap.size < u1.heap.size := World.block_lt_of_cell? _ _ a0
        have zr1 : w.heap.size + 1 < u1.heap.size := by have := NW.out.size; omega
        go_wp2
        go_loopw [37] (fun i wr => ∃ (j : Nat) (vS vH : Value), j ≤ k ∧ i = .int .i64 j ∧ Both u1 u1.heap.size wr vS vH j j (S.map (· / (dv : Int))) (H.map (· / (dv : Int)))) (fun i _ => k - (intOf i).toNat)
        case atStart =>
          exact ⟨0, .slice none 0 0, .slice none 0 0, Nat.zero_le _, rfl, { new := (by repeat (first | with_reducible exact New.refl _ | with_reducible assumption | refine New.drewN ?_ _ | refine New.drew ?_ | refine New.alloc ?_ _ | refine New.setCell ?_ (by first | omega | (simp; omega) | (simp; done)) _ | (refine New.trans ?_ (by assumption)))), lo := Nat.le_refl _, s := ⟨by simp [go_sem], by simp [go_sem], World.ownsRow_nil _ _ _ _⟩, h := ⟨by simp [go_sem], by simp [go_sem], World.ownsRow_nil _ _ _ _⟩, apart := fun g e => by simp [Value.ownBlock] at e }⟩
        case round =>
          obtain ⟨j, vS, vH, hj, rfl, hbo⟩ := hrel
          have BO := Lib.hid hbo; clear hbo
          have c0 := BO.out.s.cell
          have c1 := BO.out.h.cell
          have f0 := BO.out.s.warm
          have f1 := BO.out.h.warm
          have zb := BO.out.s.lt
          have hd0 : ¬ dv = 0 := by omega
          have A0 := Lib.hid (And.intro a0 a1)
          replace a0 := BO.out.new.cell a0
          replace a1 := BO.out.new.cell a1
          by_cases hlt : j < k
          · have hlt2 : j < m := by omega
            obtain ⟨s, h, es, eh, b1, b2, b3⟩ := HG.out.nats (show j < S.length by have := HN.out.1; omega)
            have v1 : 0 ≤ (s : Int) / (dv : Int) := Int.ediv_nonneg (by omega) (by omega)
            have v2 : (s : Int) / (dv : Int) ≤ 60 := Int.le_trans (Int.ediv_le_self _ (by omega)) (by omega)
            have v3 : 0 ≤ (h : Int) / (dv : Int) := Int.ediv_nonneg (by omega) (by omega)
            have v4 : (h : Int) / (dv : Int) ≤ 60 := Int.le_trans (Int.ediv_le_self _ (by omega)) (by omega)
            obtain ⟨ba, oa, rfl, gc, _⟩ := (HA.out.new ((N1.out.trans NW.out).trans BO.out.new)).at hlt
            obtain ⟨bb, ob, rfl, gd, _⟩ := (HB.out.new ((N1.out.trans NW.out).trans BO.out.new)).at hlt2
            rw [es] at gc
            rw [eh] at gd
            have x1 : IntKind.i64.wrap ((s : Int) / (dv : Int)) = (s : Int) / (dv : Int) := IntWalk.i64_in _ (by omega)
            have x2 : IntKind.i64.wrap ((h : Int) / (dv : Int)) = (h : Int) / (dv : Int) := IntWalk.i64_in _ (by omega)
            have ES := Lib.hid es; clear es
            have EH := Lib.hid eh; clear eh
            go_wp2
            have LS : j < (S.map (· / (dv : Int))).length := by simp; have := HN.out.1; omega
            have LH : j < (H.map (· / (dv : Int))).length := by simp; have := HN.out.2; omega
            have ES1 := Lib.hid (show (S.map (· / (dv : Int)))[j]?.getD 0 = (s : Int) / (dv : Int) by rw [map_get (by simp), ES.out])
            have EH1 := Lib.hid (show (H.map (· / (dv : Int)))[j]?.getD 0 = (h : Int) / (dv : Int) by rw [map_get (by simp), EH.out])
            have LL := Lib.hid (And.intro LS LH); clear LS LH
            go_region_law (refine step_append_lies _ (by rfl) (.tmp 43) (.tmp 47) 22 (by rfl) (u1.heap.size + 1) 3 i0 (.int .i64 0) 1 8 Try.underlying22 hi hz0 hz1 hz2 rfl (by decide) vS j _ (by rfl) (ownsRow_new BO.out.s.own (by repeat (first | with_reducible exact New.refl _ | with_reducible assumption | refine New.drewN ?_ _ | refine New.drew ?_ | refine New.alloc ?_ _ | refine New.setCell ?_ (by first | omega | (simp; omega) | (simp; done)) _ | (refine New.trans ?_ (by assumption))))) _ _ _ [.int .i64 ((s : Int) / (dv : Int))] (by rfl) (by rfl) (World.news_of_block (cs := #[.int .i64 ((s : Int) / (dv : Int))]) (t := 3) (fr := (0, 0)) (heap_alloc_new wr _)) (by simp [Value.oneCell']) (by omega) (by unfold maxLen; omega) (by omega) (by simp; omega) _ rfl ?_; intro g cap w' ho hg hb' hlt'; have kk := (BO.out.s.new (by repeat (first | with_reducible exact New.refl _ | with_reducible assumption | refine New.drewN ?_ _ | refine New.drew ?_ | refine New.alloc ?_ _ | refine New.setCell ?_ (by first | omega | (simp; omega) | (simp; done)) _ | (refine New.trans ?_ (by assumption))))).keep hg (World.cell_kept c0) (New.frz (by repeat (first | with_reducible exact New.refl _ | with_reducible assumption | refine New.drewN ?_ _ | refine New.drew ?_ | refine New.alloc ?_ _ | refine New.setCell ?_ (by first | omega | (simp; omega) | (simp; done)) _ | (refine New.trans ?_ (by assumption)))) c0 f0); obtain ⟨k1, k2⟩ := kk)
            all_goals
              have b2 := (BO.out.kept (by repeat (first | with_reducible exact New.refl _ | with_reducible assumption | refine New.drewN ?_ _ | refine New.drew ?_ | refine New.alloc ?_ _ | refine New.setCell ?_ (by first | omega | (simp; omega) | (simp; done)) _ | (refine New.trans ?_ (by assumption))))).first LL.out.1 ES1.out ho hg hb'
              obtain ⟨W2, hW2⟩ : ∃ W2, W2 = w'.setCell ⟨u1.heap.size, 0, none⟩ (.slice (some ⟨g, 0, none⟩) (j + 1) cap) := ⟨_, rfl⟩
              rw [← hW2] at b2 ⊢
              have B2 := Lib.hid b2
              replace c0 := b2.s.cell
              replace c1 := b2.h.cell
              replace f0 := b2.s.warm
              replace f1 := b2.h.warm
              replace zb := b2.s.lt
              have zz : w.heap.size < W2.heap.size := by omega
              have N2 := Lib.hid b2.new
              replace a0 := b2.new.cell A0.out.1
              replace a1 := b2.new.cell A0.out.2
              clear b2 gd k1 k2 ho hg hb' hlt' gc hW2
              obtain ⟨_, _, e2, gd, _⟩ := (HB.out.new ((N1.out.trans NW.out).trans N2.out)).at hlt2
              cases e2
              rw [EH.out] at gd
              go_wp2
              go_region_law (refine step_append_lies _ (by rfl) (.tmp 51) (.tmp 59) 22 (by rfl) (u1.heap.size + 1) 3 i0 (.int .i64 0) 1 8 Try.underlying22 hi hz0 hz1 hz2 rfl (by decide) vH j _ (by rfl) (ownsRow_new B2.out.h.own (by repeat (first | with_reducible exact New.refl _ | with_reducible assumption | refine New.drewN ?_ _ | refine New.drew ?_ | refine New.alloc ?_ _ | refine New.setCell ?_ (by first | omega | (simp; omega) | (simp; done)) _ | (refine New.trans ?_ (by assumption))))) _ _ _ [.int .i64 ((h : Int) / (dv : Int))] (by rfl) (by rfl) (World.news_of_block (cs := #[.int .i64 ((h : Int) / (dv : Int))]) (t := 3) (fr := (0, 0)) (heap_alloc_new W2 _)) (by simp [Value.oneCell']) (by omega) (by unfold maxLen; omega) (by omega) (by simp; omega) _ rfl ?_; intro g3 cap3 w3 ho3 hg3 hb3 hlt3; have kk := (B2.out.h.new (by repeat (first | with_reducible exact New.refl _ | with_reducible assumption | refine New.drewN ?_ _ | refine New.drew ?_ | refine New.alloc ?_ _ | refine New.setCell ?_ (by first | omega | (simp; omega) | (simp; done)) _ | (refine New.trans ?_ (by assumption))))).keep hg3 (World.cell_kept c1) (New.frz (by repeat (first | with_reducible exact New.refl _ | with_reducible assumption | refine New.drewN ?_ _ | refine New.drew ?_ | refine New.alloc ?_ _ | refine New.setCell ?_ (by first | omega | (simp; omega) | (simp; done)) _ | (refine New.trans ?_ (by assumption)))) c1 f1); obtain ⟨k3, k4⟩ := kk)
              all_goals
                have b3 := (B2.out.kept (by repeat (first | with_reducible exact New.refl _ | with_reducible assumption | refine New.drewN ?_ _ | refine New.drew ?_ | refine New.alloc ?_ _ | refine New.setCell ?_ (by first | omega | (simp; omega) | (simp; done)) _ | (refine New.trans ?_ (by assumption))))).second LL.out.2 EH1.out ho3 hg3 hb3
                go_wp2
                go_roundw
                case rel => exact ⟨j + 1, _, _, by omega, by go_num, b3⟩
                case measure => simp [intOf]; omega
          · obtain rfl : j = k := by omega
            have b3 := BO.out
            obtain ⟨sa, sc, sb, sd, rfl, rfl, ov⟩ := b3.own (by simp; have := HN.out.1; omega) (by simp; have := HN.out.2; omega)
            have OV := Lib.hid ov
            obtain ⟨r0, r1, f2, f3⟩ := New.boxed (NW.out.trans BO.out.new) R1.out.1 R1.out.2.1 R1.out.2.2.1 R1.out.2.2.2
            clear b3 ov
            go_wp2
            have nn := (N1.out.trans NW.out).trans BO.out.new
            have zn := (N1.out.trans NW.out).size
            have zm := BO.out.new.size
            have q := OV.out
            rw [HD.out] at q
            rw [← HD.out] at q ⊢
            refine bodyPost_ret (v := .tuple #[.agg #[.slice sa j sc, .slice sb j sd], .int .i64 (dv : Int), .bool true]) (by simp [results, Try.results39, go_sem, r0, r1]) rfl ⟨_, _, _, _, _, _, rfl, ?_, (by repeat (first | with_reducible exact New.refl _ | with_reducible assumption | refine New.drewN ?_ _ | refine New.drew ?_ | refine New.alloc ?_ _ | refine New.setCell ?_ (by first | omega | (simp; omega) | (simp; done)) _ | (refine New.trans ?_ (by assumption))))⟩
            exact ((q.setCell (.inl (by simp; omega)) _).setCell (.inl (by simp; omega)) _).mono (by omega) (by simp)
  · have hg' : goodB S H = false := by simpa using hg
    rw [leastM_no hg']
    go_enter Try.func39, Try.ntmps39
    go_wp2_with fail
    refine (veGood_any _ _ _ _ _ _ _ _ _ (HA.out.new (by repeat (first | with_reducible exact New.refl _ | with_reducible assumption | refine New.drewN ?_ _ | refine New.drew ?_ | refine New.alloc ?_ _ | refine New.setCell ?_ (by first | omega | (simp; omega) | (simp; done)) _ | (refine New.trans ?_ (by assumption))))) (HB.out.new (by repeat (first | with_reducible exact New.refl _ | with_reducible assumption | refine New.drewN ?_ _ | refine New.drew ?_ | refine New.alloc ?_ _ | refine New.setCell ?_ (by first | omega | (simp; omega) | (simp; done)) _ | (refine New.trans ?_ (by assumption)))))).mono ?_
    rintro e w0 ⟨rfl, n0⟩
    have r0 : w0.cell? ⟨w.heap.size + 1, 0, none⟩ = some (.slice none 0 0) := n0.cell (by simp [go_sem])
    have r1 : w0.cell? ⟨w.heap.size + 1, 1, none⟩ = some (.slice none 0 0) := n0.cell (by simp [go_sem])
    have f0 : w0.frozen? ⟨w.heap.size + 1, 0, none⟩ = false := n0.frz (v := .slice none 0 0) (by simp [go_sem]) (by simp [go_sem])
    have f1 : w0.frozen? ⟨w.heap.size + 1, 1, none⟩ = false := n0.frz (v := .slice none 0 0) (by simp [go_sem]) (by simp [go_sem])
    have N0 := Lib.hid (show New w w0 from New.trans (by repeat (first | with_reducible exact New.refl _ | with_reducible assumption | refine New.drewN ?_ _ | refine New.drew ?_ | refine New.alloc ?_ _ | refine New.setCell ?_ (by first | omega | (simp; omega) | (simp; done)) _ | (refine New.trans ?_ (by assumption)))) n0); clear n0
    go_wp2
    have nn := N0.out
    exact bodyPost_ret (v := .tuple #[.agg #[.slice none 0 0, .slice none 0 0], .int .i64 0, .bool false]) (by simp [results, Try.results39, go_sem, r0, r1]) rfl ⟨none, 0, 0, none, 0, 0, rfl, OwnV.nil _ _ _, (by repeat (first | with_reducible exact New.refl _ | with_reducible assumption | refine New.drewN ?_ _ | refine New.drew ?_ | refine New.alloc ?_ _ | refine New.setCell ?_ (by first | omega | (simp; omega) | (simp; done)) _ | (refine New.trans ?_ (by assumption))))⟩
end Go.Proofs.Ytkonhflamnekcaa
