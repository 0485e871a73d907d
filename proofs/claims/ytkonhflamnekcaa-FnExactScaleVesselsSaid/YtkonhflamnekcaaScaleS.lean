/- ScaleVessels, the model's. -/
import Derived.Test.YtkonhflamnekcaaLeastS
namespace Go.Proofs.Ytkonhflamnekcaa
open Go.RowKit

set_option maxRecDepth 100000 in
set_option maxHeartbeats 8000000 in
theorem sScaleVessels_any (w : World) (aa ab : Option Addr) (n m ca cb : Nat) (S H : List Int) (x : Int) (h1 : Ints w aa n ca S) (h2 : Ints w ab m cb H) :
    Calls Try.prog 37 #[.agg #[.slice aa n ca, .slice ab m cb], .int .i64 x] w (RetW w (scaleM S H x).1 (scaleM S H x).2.1 (scaleM S H x).2.2) := by
  have HA := Lib.hid h1; clear h1
  have HB := Lib.hid h2; clear h2
  by_cases hg : goodB S H = true
  · have hG := goodB_iff.1 hg
    have hn := HA.out.len
    have hm := HB.out.len
    have q5 : n ≤ 5 := by have := hG.1; omega
    have q1 : 1 ≤ n := by have := hG.1; omega
    have qm : m ≤ n ∧ n ≤ m := by have := hG.2.1; omega
    have HG := Lib.hid hG; clear hG
    have HN := Lib.hid (And.intro hn hm); clear hn hm
    by_cases hx : inB 1 60 x = true
    · obtain ⟨hx1, hx2⟩ := inB_iff.1 hx
      go_enter Try.func37, Try.ntmps37
      go_wp2_with fail
      refine (veGood_any _ _ _ _ _ _ _ _ _ (HA.out.new (by repeat (first | with_reducible exact New.refl _ | with_reducible assumption | refine New.drewN ?_ _ | refine New.drew ?_ | refine New.alloc ?_ _ | refine New.setCell ?_ (by first | omega | (simp; omega) | (simp; done)) _ | (refine New.trans ?_ (by assumption))))) (HB.out.new (by repeat (first | with_reducible exact New.refl _ | with_reducible assumption | refine New.drewN ?_ _ | refine New.drew ?_ | refine New.alloc ?_ _ | refine New.setCell ?_ (by first | omega | (simp; omega) | (simp; done)) _ | (refine New.trans ?_ (by assumption)))))).mono ?_
      rintro e w1 ⟨rfl, n1⟩
      have a0 : w1.cell? ⟨w.heap.size, 0, none⟩ = some (.slice aa n ca) := n1.cell (by simp [go_sem])
      have a1 : w1.cell? ⟨w.heap.size, 1, none⟩ = some (.slice ab m cb) := n1.cell (by simp [go_sem])
      have r0 : w1.cell? ⟨w.heap.size + 1, 0, none⟩ = some (.slice none 0 0) := n1.cell (by simp [go_sem])
      have r1 : w1.cell? ⟨w.heap.size + 1, 1, none⟩ = some (.slice none 0 0) := n1.cell (by simp [go_sem])
      have f0 : w1.frozen? ⟨w.heap.size + 1, 0, none⟩ = false := n1.frz (v := .slice none 0 0) (by simp [go_sem]) (by simp [go_sem])
      have f1 : w1.frozen? ⟨w.heap.size + 1, 1, none⟩ = false := n1.frz (v := .slice none 0 0) (by simp [go_sem]) (by simp [go_sem])
      have R1 := Lib.hid (And.intro r0 (And.intro r1 (And.intro f0 f1))); clear r0 r1 f0 f1
      have N1 := Lib.hid (show New w w1 from New.trans (by repeat (first | with_reducible exact New.refl _ | with_reducible assumption | refine New.drewN ?_ _ | refine New.drew ?_ | refine New.alloc ?_ _ | refine New.setCell ?_ (by first | omega | (simp; omega) | (simp; done)) _ | (refine New.trans ?_ (by assumption)))) n1); clear n1
      have z0 : w.heap.size + 1 < w1.heap.size := World.block_lt_of_cell? _ _ R1.out.1
      go_wp2_with fail
      refine (l1In_any _ _ _ _).mono ?_
      rintro e w9 ⟨rfl, rfl⟩
      obtain ⟨i0, hi, hz0, hz1, hz2⟩ := info_parts Try.infoInt
      obtain ⟨u1, rfl⟩ : ∃ u : World, u = w1 := ⟨_, rfl⟩
      have zr : w.heap.size < u1.heap.size := World.block_lt_of_cell? _ _ a0
      have zr1 : w.heap.size + 1 < u1.heap.size := z0
      go_wp2
      go_loopw [22] (fun i wr => ∃ (j : Nat) (vS vH : Value), j ≤ n ∧ i = .int .i64 j ∧ Both u1 u1.heap.size wr vS vH j j (S.map (x * ·)) (H.map (x * ·))) (fun i _ => n - (intOf i).toNat)
      case atStart =>
        exact ⟨0, .slice none 0 0, .slice none 0 0, Nat.zero_le _, rfl, { new := (by repeat (first | with_reducible exact New.refl _ | with_reducible assumption | refine New.drewN ?_ _ | refine New.drew ?_ | refine New.alloc ?_ _ | refine New.setCell ?_ (by first | omega | (simp; omega) | (simp; done)) _ | (refine New.trans ?_ (by assumption)))), lo := Nat.le_refl _, s := ⟨by simp [go_sem], by simp [go_sem], World.ownsRow_nil _ _ _ _⟩, h := ⟨by simp [go_sem], by simp [go_sem], World.ownsRow_nil _ _ _ _⟩, apart := fun g e => by simp [Value.ownBlock] at e }⟩
      case round =>
        obtain ⟨j, vS, vH, hj, rfl, hbo⟩ := hrel
        have BO := Lib.hid hbo; clear hbo
        have c0 := BO.out.s.cell
        have c1 := BO.out.h.cell
        have f0 := BO.out.s.warm
        have f1 := BO.out.h.warm
        have zb := BO.out.s.lt
        have A0 := Lib.hid (And.intro a0 a1)
        replace a0 := BO.out.new.cell a0
        replace a1 := BO.out.new.cell a1
        by_cases hlt : j < n
        · have hlt2 : j < m := by omega
          obtain ⟨s, h, es, eh, b1, b2, b3⟩ := HG.out.nats (show j < S.length by have := HN.out.1; omega)
          have v1 : 0 ≤ x * (s : Int) := Int.mul_nonneg (by omega) (by omega)
          have v2 : x * (s : Int) ≤ 60 * 60 := Int.mul_le_mul (by omega) (by omega) (by omega) (by omega)
          have v3 : 0 ≤ x * (h : Int) := Int.mul_nonneg (by omega) (by omega)
          have v4 : x * (h : Int) ≤ 60 * 60 := Int.mul_le_mul (by omega) (by omega) (by omega) (by omega)
          obtain ⟨ba, oa, rfl, gc, _⟩ := (HA.out.new (N1.out.trans BO.out.new)).at hlt
          obtain ⟨bb, ob, rfl, gd, _⟩ := (HB.out.new (N1.out.trans BO.out.new)).at hlt2
          rw [es] at gc
          rw [eh] at gd
          have x1 : IntKind.i64.wrap (x * (s : Int)) = x * (s : Int) := IntWalk.i64_in _ (by omega)
          have x2 : IntKind.i64.wrap (x * (h : Int)) = x * (h : Int) := IntWalk.i64_in _ (by omega)
          have ES := Lib.hid es; clear es
          have EH := Lib.hid eh; clear eh
          have LS : j < (S.map (x * ·)).length := by simp; have := HN.out.1; omega
          have LH : j < (H.map (x * ·)).length := by simp; have := HN.out.2; omega
          have ES1 := Lib.hid (show (S.map (x * ·))[j]?.getD 0 = x * (s : Int) by rw [map_get (by simp), ES.out])
          have EH1 := Lib.hid (show (H.map (x * ·))[j]?.getD 0 = x * (h : Int) by rw [map_get (by simp), EH.out])
          have LL := Lib.hid (And.intro LS LH); clear LS LH
          go_wp2_with (at_builtin; refine wpList_append_lies _ (by rfl) (.tmp 28) (.tmp 32) 22 (by rfl) (u1.heap.size + 1) 3 i0 (.int .i64 0) 1 8 Try.underlying22 hi hz0 hz1 hz2 rfl (by decide) vS j _ (by rfl) (ownsRow_new BO.out.s.own (by repeat (first | with_reducible exact New.refl _ | with_reducible assumption | refine New.drewN ?_ _ | refine New.drew ?_ | refine New.alloc ?_ _ | refine New.setCell ?_ (by first | omega | (simp; omega) | (simp; done)) _ | (refine New.trans ?_ (by assumption))))) _ _ _ [.int .i64 (x * (s : Int))] (by rfl) (by rfl) (World.news_of_block (cs := #[.int .i64 (x * (s : Int))]) (t := 3) (fr := (0, 0)) (heap_alloc_new wr _)) (by simp [Value.oneCell']) (by omega) (by unfold maxLen; omega) (by omega) (by simp; omega) _ rfl ?_; intro g cap w' ho hg hb' hlt'; have kk := (BO.out.s.new (by repeat (first | with_reducible exact New.refl _ | with_reducible assumption | refine New.drewN ?_ _ | refine New.drew ?_ | refine New.alloc ?_ _ | refine New.setCell ?_ (by first | omega | (simp; omega) | (simp; done)) _ | (refine New.trans ?_ (by assumption))))).keep hg (World.cell_kept c0) (New.frz (by repeat (first | with_reducible exact New.refl _ | with_reducible assumption | refine New.drewN ?_ _ | refine New.drew ?_ | refine New.alloc ?_ _ | refine New.setCell ?_ (by first | omega | (simp; omega) | (simp; done)) _ | (refine New.trans ?_ (by assumption)))) c0 f0); obtain ⟨k1, k2⟩ := kk)
          all_goals
            have b2 := (BO.out.kept (by repeat (first | with_reducible exact New.refl _ | with_reducible assumption | refine New.drewN ?_ _ | refine New.drew ?_ | refine New.alloc ?_ _ | refine New.setCell ?_ (by first | omega | (simp; omega) | (simp; done)) _ | (refine New.trans ?_ (by assumption))))).first LL.out.1 ES1.out ho hg hb'
            obtain ⟨W2, hW2⟩ : ∃ W2, W2 = w'.setCell ⟨u1.heap.size, 0, none⟩ (.slice (some ⟨g, 0, none⟩) (j + 1) cap) := ⟨_, rfl⟩
            rw [← hW2] at b2 ⊢
            have B2 := Lib.hid b2
            replace c0 := b2.s.cell
            replace c1 := b2.h.cell
            replace f0 := b2.s.warm
            replace f1 := b2.h.warm
            replace zb := b2.s.lt
            have zz : w.heap.size < W2.heap.size := by omega
            have N2 := Lib.hid b2.new
            replace a0 := b2.new.cell A0.out.1
            replace a1 := b2.new.cell A0.out.2
            clear b2 gd k1 k2 ho hg hb' hlt' gc hW2
            obtain ⟨_, _, e2, gd, _⟩ := (HB.out.new (N1.out.trans N2.out)).at hlt2
            cases e2
            rw [EH.out] at gd
            go_wp2
            go_region_law (refine step_append_lies _ (by rfl) (.tmp 36) (.tmp 44) 22 (by rfl) (u1.heap.size + 1) 3 i0 (.int .i64 0) 1 8 Try.underlying22 hi hz0 hz1 hz2 rfl (by decide) vH j _ (by rfl) (ownsRow_new B2.out.h.own (by repeat (first | with_reducible exact New.refl _ | with_reducible assumption | refine New.drewN ?_ _ | refine New.drew ?_ | refine New.alloc ?_ _ | refine New.setCell ?_ (by first | omega | (simp; omega) | (simp; done)) _ | (refine New.trans ?_ (by assumption))))) _ _ _ [.int .i64 (x * (h : Int))] (by rfl) (by rfl) (World.news_of_block (cs := #[.int .i64 (x * (h : Int))]) (t := 3) (fr := (0, 0)) (heap_alloc_new W2 _)) (by simp [Value.oneCell']) (by omega) (by unfold maxLen; omega) (by omega) (by simp; omega) _ rfl ?_; intro g3 cap3 w3 ho3 hg3 hb3 hlt3; have kk := (B2.out.h.new (by repeat (first | with_reducible exact New.refl _ | with_reducible assumption | refine New.drewN ?_ _ | refine New.drew ?_ | refine New.alloc ?_ _ | refine New.setCell ?_ (by first | omega | (simp; omega) | (simp; done)) _ | (refine New.trans ?_ (by assumption))))).keep hg3 (World.cell_kept c1) (New.frz (by repeat (first | with_reducible exact New.refl _ | with_reducible assumption | refine New.drewN ?_ _ | refine New.drew ?_ | refine New.alloc ?_ _ | refine New.setCell ?_ (by first | omega | (simp; omega) | (simp; done)) _ | (refine New.trans ?_ (by assumption)))) c1 f1); obtain ⟨k3, k4⟩ := kk)
            all_goals
              have b3 := (B2.out.kept (by repeat (first | with_reducible exact New.refl _ | with_reducible assumption | refine New.drewN ?_ _ | refine New.drew ?_ | refine New.alloc ?_ _ | refine New.setCell ?_ (by first | omega | (simp; omega) | (simp; done)) _ | (refine New.trans ?_ (by assumption))))).second LL.out.2 EH1.out ho3 hg3 hb3
              go_wp2
              go_roundw
              case rel => exact ⟨j + 1, _, _, by omega, by go_num, b3⟩
              case measure => simp [intOf]; omega
        · obtain rfl : j = n := by omega
          have b3 := BO.out
          obtain ⟨sa, sc, sb, sd, rfl, rfl, ov⟩ := b3.own (by simp; have := HN.out.1; omega) (by simp; have := HN.out.2; omega)
          have OV := Lib.hid ov
          obtain ⟨r0, r1, f2, f3⟩ := New.boxed BO.out.new R1.out.1 R1.out.2.1 R1.out.2.2.1 R1.out.2.2.2
          clear b3 ov f0 f1
          have zn := N1.out.size
          have zm := BO.out.new.size
          go_wp2_with fail
          refine (veGood_any _ _ _ _ _ _ _ _ _ OV.out.1.ints OV.out.2.1.ints).mono ?_
          rintro e w5 ⟨rfl, n5⟩
          replace c0 := n5.cell c0
          replace c1 := n5.cell c1
          obtain ⟨r2, r3, f4, f5⟩ := New.boxed n5 r0 r1 f2 f3
          have N5 := Lib.hid n5; clear n5 r0 r1 f2 f3 a0 a1
          have zz := N5.out.size
          have nn := Lib.hid ((N1.out.trans BO.out.new).trans N5.out)
          have B5 := Lib.hid ((OV.out.new N5.out).mono (Nat.le_refl _) N5.out.size); clear OV
          by_cases hfit : goodB (S.map (x * ·)) (H.map (x * ·)) = true
          · have EE := Lib.hid (scaleM_yes (show scaleB S H x = true by unfold scaleB; rw [hg, hx, hfit]; rfl))
            go_wp2
            refine bodyPost_ret (v := .tuple #[.agg #[.slice sa j sc, .slice sb j sd], .bool true]) (by simp [results, Try.results37, go_sem, r2, r3]) rfl ?_
            rw [EE.out]
            refine ⟨_, _, _, _, _, _, rfl, ?_, ?_⟩
            · exact ((B5.out.setCell (.inl (by simp; omega)) _).setCell (.inl (by simp; omega)) _).mono (by omega) (by simp)
            · have nn := nn.out
              exact (by repeat (first | with_reducible exact New.refl _ | with_reducible assumption | refine New.drewN ?_ _ | refine New.drew ?_ | refine New.alloc ?_ _ | refine New.setCell ?_ (by first | omega | (simp; omega) | (simp; done)) _ | (refine New.trans ?_ (by assumption))))
          · have hfit' : goodB (S.map (x * ·)) (H.map (x * ·)) = false := by simpa using hfit
            have EE := Lib.hid (scaleM_no (show scaleB S H x = false by unfold scaleB; rw [hfit']; simp))
            go_wp2
            refine bodyPost_ret (v := .tuple #[.agg #[.slice none 0 0, .slice none 0 0], .bool false]) (by simp [results, Try.results37, go_sem, r2, r3]) rfl ?_
            rw [EE.out]
            have nn := nn.out
            exact ⟨none, 0, 0, none, 0, 0, rfl, OwnV.nil _ _ _, (by repeat (first | with_reducible exact New.refl _ | with_reducible assumption | refine New.drewN ?_ _ | refine New.drew ?_ | refine New.alloc ?_ _ | refine New.setCell ?_ (by first | omega | (simp; omega) | (simp; done)) _ | (refine New.trans ?_ (by assumption))))⟩
    · have hx' : inB 1 60 x = false := by simpa using hx
      rw [scaleM_no (show scaleB S H x = false by unfold scaleB; rw [hx']; simp)]
      go_enter Try.func37, Try.ntmps37
      go_wp2_with fail
      refine (veGood_any _ _ _ _ _ _ _ _ _ (HA.out.new (by repeat (first | with_reducible exact New.refl _ | with_reducible assumption | refine New.drewN ?_ _ | refine New.drew ?_ | refine New.alloc ?_ _ | refine New.setCell ?_ (by first | omega | (simp; omega) | (simp; done)) _ | (refine New.trans ?_ (by assumption))))) (HB.out.new (by repeat (first | with_reducible exact New.refl _ | with_reducible assumption | refine New.drewN ?_ _ | refine New.drew ?_ | refine New.alloc ?_ _ | refine New.setCell ?_ (by first | omega | (simp; omega) | (simp; done)) _ | (refine New.trans ?_ (by assumption)))))).mono ?_
      rintro e w0 ⟨rfl, n0⟩
      have r0 : w0.cell? ⟨w.heap.size + 1, 0, none⟩ = some (.slice none 0 0) := n0.cell (by simp [go_sem])
      have r1 : w0.cell? ⟨w.heap.size + 1, 1, none⟩ = some (.slice none 0 0) := n0.cell (by simp [go_sem])
      have f0 : w0.frozen? ⟨w.heap.size + 1, 0, none⟩ = false := n0.frz (v := .slice none 0 0) (by simp [go_sem]) (by simp [go_sem])
      have f1 : w0.frozen? ⟨w.heap.size + 1, 1, none⟩ = false := n0.frz (v := .slice none 0 0) (by simp [go_sem]) (by simp [go_sem])
      have N0 := Lib.hid (show New w w0 from New.trans (by repeat (first | with_reducible exact New.refl _ | with_reducible assumption | refine New.drewN ?_ _ | refine New.drew ?_ | refine New.alloc ?_ _ | refine New.setCell ?_ (by first | omega | (simp; omega) | (simp; done)) _ | (refine New.trans ?_ (by assumption)))) n0); clear n0
      go_wp2_with fail
      refine (l1In_any _ _ _ _).mono ?_
      rintro e w9 ⟨rfl, rfl⟩
      go_wp2
      have nn := N0.out
      exact bodyPost_ret (v := .tuple #[.agg #[.slice none 0 0, .slice none 0 0], .bool false]) (by simp [results, Try.results37, go_sem, r0, r1]) rfl ⟨none, 0, 0, none, 0, 0, rfl, OwnV.nil _ _ _, (by repeat (first | with_reducible exact New.refl _ | with_reducible assumption | refine New.drewN ?_ _ | refine New.drew ?_ | refine New.alloc ?_ _ | refine New.setCell ?_ (by first | omega | (simp; omega) | (simp; done)) _ | (refine New.trans ?_ (by assumption))))⟩
  · have hg' : goodB S H = false := by simpa using hg
    rw [scaleM_no (show scaleB S H x = false by unfold scaleB; rw [hg']; simp)]
    go_enter Try.func37, Try.ntmps37
    go_wp2_with fail
    refine (veGood_any _ _ _ _ _ _ _ _ _ (HA.out.new (by repeat (first | with_reducible exact New.refl _ | with_reducible assumption | refine New.drewN ?_ _ | refine New.drew ?_ | refine New.alloc ?_ _ | refine New.setCell ?_ (by first | omega | (simp; omega) | (simp; done)) _ | (refine New.trans ?_ (by assumption))))) (HB.out.new (by repeat (first | with_reducible exact New.refl _ | with_reducible assumption | refine New.drewN ?_ _ | refine New.drew ?_ | refine New.alloc ?_ _ | refine New.setCell ?_ (by first | omega | (simp; omega) | (simp; done)) _ | (refine New.trans ?_ (by assumption)))))).mono ?_
    rintro e w0 ⟨rfl, n0⟩
    have r0 : w0.cell? ⟨w.heap.size + 1, 0, none⟩ = some (.slice none 0 0) := n0.cell (by simp [go_sem])
    have r1 : w0.cell? ⟨w.heap.size + 1, 1, none⟩ = some (.slice none 0 0) := n0.cell (by simp [go_sem])
    have f0 : w0.frozen? ⟨w.heap.size + 1, 0, none⟩ = false := n0.frz (v := .slice none 0 0) (by simp [go_sem]) (by simp [go_sem])
    have f1 : w0.frozen? ⟨w.heap.size + 1, 1, none⟩ = false := n0.frz (v := .slice none 0 0) (by simp [go_sem]) (by simp [go_sem])
    have N0 := Lib.hid (show New w w0 from New.trans (by repeat (first | with_reducible exact New.refl _ | with_reducible assumption | refine New.drewN ?_ _ | refine New.drew ?_ | refine New.alloc ?_ _ | refine New.setCell ?_ (by first | omega | (simp; omega) | (simp; done)) _ | (refine New.trans ?_ (by assumption)))) n0); clear n0
    go_wp2
    have nn := N0.out
    exact bodyPost_ret (v := .tuple #[.agg #[.slice none 0 0, .slice none 0 0], .bool false]) (by simp [results, Try.results37, go_sem, r0, r1]) rfl ⟨none, 0, 0, none, 0, 0, rfl, OwnV.nil _ _ _, (by repeat (first | with_reducible exact New.refl _ | with_reducible assumption | refine New.drewN ?_ _ | refine New.drew ?_ | refine New.alloc ?_ _ | refine New.setCell ?_ (by first | omega | (simp; omega) | (simp; done)) _ | (refine New.trans ?_ (by assumption))))⟩
end Go.Proofs.Ytkonhflamnekcaa
