/- ParseVessels: the model's. -/
import Derived.Test.YtknjobpdbbjeoaaDoorPvN
import Derived.Test.YtknjobpdbbjeoaaDoorBoth
namespace Go.Proofs.YtknjobpdbbjeoaaDoor
open Go.RowKit

/-- Vessels that a call returns, of its own make. -/
def RetV (w : World) (S H : List Int) (ok : Bool) (e : Ending) (w' : World) : Prop :=
  ∃ sa n sc sb m sd, e = .returned (.tuple #[.agg #[.slice sa n sc, .slice sb m sd], .bool ok]) ∧ OwnV w' w.heap.size w'.heap.size sa n sc sb m sd S H ∧ New w w'
theorem Both.pushS {w wr : World} {B : Nat} {vS vH : Value} {a b : Nat} {xs ys : List Int} (h : Both w B wr vS vH a b xs ys) (e : a = xs.length) (z : Int) : Both w B wr vS vH a b (xs ++ [z]) ys :=
  ⟨h.new, h.lo, by have := h.s; rwa [show (xs ++ [z]).take a = xs.take a by subst e; simp], h.h, h.apart⟩
theorem Both.pushH {w wr : World} {B : Nat} {vS vH : Value} {a b : Nat} {xs ys : List Int} (h : Both w B wr vS vH a b xs ys) (e : b = ys.length) (z : Int) : Both w B wr vS vH a b xs (ys ++ [z]) :=
  ⟨h.new, h.lo, h.s, by have := h.h; rwa [show (ys ++ [z]).take b = ys.take b by subst e; simp], h.apart⟩
/-- A box of two slices that waits for a result. -/
structure Box0 (w : World) (B : Nat) : Prop where
  r0 : w.cell? ⟨B, 0, none⟩ = some (.slice none 0 0)
  r1 : w.cell? ⟨B, 1, none⟩ = some (.slice none 0 0)
  f0 : w.frozen? ⟨B, 0, none⟩ = false
  f1 : w.frozen? ⟨B, 1, none⟩ = false
theorem Box0.new {w w' : World} {B : Nat} (h : Box0 w B) (k : New w w') : Box0 w' B := ⟨k.cell h.r0, k.cell h.r1, k.frz h.r0 h.f0, k.frz h.r1 h.f1⟩
theorem Box0.lt {w : World} {B : Nat} (h : Box0 w B) : B < w.heap.size := World.block_lt_of_cell? _ _ h.r0

/-- What the reader holds ahead of the step k; behind the last one the last size has been laid down. -/
def pvX (s : ByteArray) (k : Nat) : (List Int × List Int) × Int := if k ≤ s.size then pvK s k else ((pvS s, pvH s), 0)
theorem pvX_in {s : ByteArray} {k : Nat} (h : k ≤ s.size) : pvX s k = pvK s k := by unfold pvX; rw [if_pos h]
theorem pvX_end (s : ByteArray) : pvX s (s.size + 1) = ((pvS s, pvH s), 0) := by unfold pvX; rw [if_neg (by omega)]
theorem pvX_last (s : ByteArray) : pvX s (s.size + 1) = (((pvX s s.size).1.1 ++ [(pvX s s.size).2], (pvX s s.size).1.2), 0) := by
  rw [pvX_end, pvX_in (Nat.le_refl _)]; rfl
theorem pvX_step {s : ByteArray} {k : Nat} (h : k < s.size) : pvX s (k + 1) = pvStep (pvX s k) (byA s k) := by
  rw [pvX_in (show k + 1 ≤ s.size by omega), pvX_in (by omega), pvK_succ h]
theorem pvX_comma {s : ByteArray} {k : Nat} (h : k < s.size) (hb : (byA s k).toNat = 44) : pvX s (k + 1) = (((pvX s k).1.1 ++ [(pvX s k).2], (pvX s k).1.2), 0) := by
  rw [pvX_step h]; unfold pvStep; rw [if_pos hb]
theorem pvX_bar {s : ByteArray} {k : Nat} (h : k < s.size) (hb : (byA s k).toNat = 47) : pvX s (k + 1) = (((pvX s k).1.1, (pvX s k).1.2 ++ [(pvX s k).2]), 0) := by
  rw [pvX_step h]; unfold pvStep; rw [if_neg (by omega), if_pos hb]
theorem pvX_dig {s : ByteArray} {k : Nat} (h : k < s.size) (h0 : 48 ≤ (byA s k).toNat) (h1 : (byA s k).toNat ≤ 57) : pvX s (k + 1) = ((pvX s k).1, min 1000 (10 * (pvX s k).2 + (((byA s k).toNat : Int) - 48))) := by
  rw [pvX_step h]; unfold pvStep; rw [if_neg (by omega), if_neg (by omega), if_pos ⟨h0, h1⟩]
theorem pvX_else {s : ByteArray} {k : Nat} (h : k < s.size) (h0 : (byA s k).toNat ≠ 44) (h1 : (byA s k).toNat ≠ 47) (h2 : (byA s k).toNat < 48 ∨ 57 < (byA s k).toNat) : pvX s (k + 1) = pvX s k := by
  rw [pvX_step h]; unfold pvStep; rw [if_neg h0, if_neg h1, if_neg (by omega)]
theorem pvX_bd (s : ByteArray) (k : Nat) (hk : k ≤ s.size + 1) : (pvX s k).1.1.length ≤ k ∧ (pvX s k).1.2.length ≤ k ∧ 0 ≤ (pvX s k).2 ∧ (pvX s k).2 ≤ 1000 := by
  by_cases h : k ≤ s.size
  · rw [pvX_in h]; exact pvK_bd s k h
  · obtain rfl : k = s.size + 1 := by omega
    rw [pvX_end]
    have := pvK_bd s s.size (Nat.le_refl _)
    unfold pvS pvH
    simp only [List.length_append, List.length_singleton]; omega

set_option maxRecDepth 100000 in
set_option maxHeartbeats 1000000 in
theorem veParse_any (w : World) (s : ByteArray) (hs : s.size ≤ 1048576) : Calls Tryd.prog 9 #[.string s] w (RetV w (pvMS s) (pvMH s) (pvB s)) := by
  by_cases h30 : s.size ≤ 30
  · obtain ⟨i0, hi, hz0, hz1, hz2⟩ := info_parts Tryd.infoInt
    have h30' : ¬ 30 < (s.size : Int) := by omega
    go_enter Tryd.func9, Tryd.ntmps9
    go_upto_region 1 with fail
    obtain ⟨w1, hw1⟩ : ∃ u : World, u = w.alloc (.cells #[.slice none 0 0, .slice none 0 0] 24) := ⟨_, rfl⟩
    rw [← hw1]
    have N1 := Lib.hid (show New w w1 by rw [hw1]; exact (New.refl _).alloc _)
    have R1 := Lib.hid (show Box0 w1 w.heap.size by rw [hw1]; exact ⟨by simp [go_sem], by simp [go_sem], by simp [go_sem], by simp [go_sem]⟩)
    obtain ⟨B0, hB⟩ : ∃ B, B = w.heap.size := ⟨_, rfl⟩
    have Z1 := Lib.hid (show w1.heap.size = B0 + 1 by rw [hw1, hB]; simp)
    have BL : w.heap.size ≤ B0 := by omega
    rw [← hB] at R1 ⊢
    clear hB hw1
    go_upto_region 4 with fail
    obtain ⟨w2, hw2⟩ : ∃ u : World, u = w1.alloc (.cells #[.slice none 0 0, .slice none 0 0] 24) := ⟨_, rfl⟩
    rw [← hw2]
    obtain ⟨B1, hB1⟩ : ∃ B, B = w1.heap.size := ⟨_, rfl⟩
    have BO2 := Lib.hid (show Both w1 B1 w2 (.slice none 0 0) (.slice none 0 0) 0 0 [] [] by
      rw [hw2, hB1]
      exact ⟨(New.refl _).alloc _, Nat.le_refl _, ⟨by simp [go_sem], by simp [go_sem], World.ownsRow_nil _ _ _ _⟩, ⟨by simp [go_sem], by simp [go_sem], World.ownsRow_nil _ _ _ _⟩, fun g e => by simp [Value.ownBlock] at e⟩)
    rw [← hB1]
    have Z2 := Lib.hid (show B1 = B0 + 1 by rw [hB1, Z1.out])
    clear hw2 hB1
    go_wp2
    go_loopw [5, 6] (fun x i wr => ∃ (k : Nat) (vS vH : Value) (a b : Nat), k ≤ s.size + 1 ∧ i = .int .i64 (k : Int) ∧ x = .int .i64 (pvX s k).2 ∧ a = (pvX s k).1.1.length ∧ b = (pvX s k).1.2.length ∧ Both w1 B1 wr vS vH a b (pvX s k).1.1 (pvX s k).1.2) (fun _ i _ => s.size + 1 - (intOf i).toNat)
    case atStart => exact ⟨0, _, _, 0, 0, by omega, rfl, rfl, rfl, rfl, BO2.out⟩
    case round =>
      obtain ⟨k, vS, vH, a, b, hk, rfl, rfl, ea, eb, hbo⟩ := hrel
      have BO := Lib.hid hbo; clear hbo BO2
      have bd := pvX_bd s k hk
      obtain ⟨A, eA⟩ : ∃ A, A = (pvX s k).1.1 := ⟨_, rfl⟩
      obtain ⟨Bl, eBl⟩ : ∃ A, A = (pvX s k).1.2 := ⟨_, rfl⟩
      obtain ⟨x, ex⟩ : ∃ x, x = (pvX s k).2 := ⟨_, rfl⟩
      rw [← eA, ← eBl] at BO
      rw [← eA] at ea bd
      rw [← eBl] at eb bd
      rw [← ex] at bd ⊢
      have EX := Lib.hid (And.intro eA (And.intro eBl ex)); clear eA eBl ex
      have EA := Lib.hid ea; have EB := Lib.hid eb
      have ba : a ≤ 31 := by omega
      have bb : b ≤ 31 := by omega
      obtain ⟨_, _, x0, x1⟩ := bd
      clear ea eb
      have c0 := BO.out.s.cell
      have c1 := BO.out.h.cell
      have f0 := BO.out.s.warm
      have f1 := BO.out.h.warm
      have zb := BO.out.s.lt
      by_cases hend : k = s.size + 1
      · have hle : ¬ (k : Int) ≤ (s.size : Int) := by omega
        subst hend
        have XE := Lib.hid (pvX_end s)
        have FA := Lib.hid (show A = pvS s by rw [EX.out.1, XE.out])
        have FB := Lib.hid (show Bl = pvH s by rw [EX.out.2.1, XE.out])
        obtain ⟨sa, sc, sb, sd, rfl, rfl, ov⟩ := BO.out.own (by rw [EA.out]; exact Nat.le_refl _) (by rw [EB.out]; exact Nat.le_refl _)
        have OV := Lib.hid (show OwnV wr w1.heap.size wr.heap.size sa a sc sb b sd (pvS s) (pvH s) by rw [← FA.out, ← FB.out]; exact ov); clear ov
        have RB := Lib.hid (R1.out.new BO.out.new)
        have zn := N1.out.size
        have zm := BO.out.new.size
        go_wp2_with fail
        refine (veGood_any _ _ _ _ _ _ _ _ _ OV.out.1.ints OV.out.2.1.ints).mono ?_
        rintro e w5 ⟨rfl, n5⟩
        replace c0 := n5.cell c0
        replace c1 := n5.cell c1
        have RB5 := Lib.hid (RB.out.new n5)
        have N5 := Lib.hid n5; clear n5
        have B5 := Lib.hid ((OV.out.new N5.out).mono (Nat.le_refl _) N5.out.size)
        have nn := Lib.hid ((N1.out.trans BO.out.new).trans N5.out)
        have zz := N5.out.size
        have z0 := RB5.out.lt
        cases hg : goodB (pvS s) (pvH s)
        case false =>
          have NO := Lib.hid (show pvB s = false by unfold pvB; rw [hg]; rfl)
          obtain ⟨r0, r1, g0, g1⟩ := RB5.out
          go_wp2
          refine bodyPost_ret (v := .tuple #[.agg #[.slice none 0 0, .slice none 0 0], .bool false]) (by simp [results, Tryd.results9, go_sem, r0, r1]) rfl ?_
          rw [NO.out, (pv_false NO.out).1, (pv_false NO.out).2]
          have nn := nn.out
          exact ⟨none, 0, 0, none, 0, 0, rfl, OwnV.nil _ _ _, (by repeat (first | with_reducible exact New.refl _ | with_reducible assumption | refine New.drewN ?_ _ | refine New.drew ?_ | refine New.alloc ?_ _ | refine New.setCell ?_ (by first | omega | (simp; omega) | (simp; done)) _ | (refine New.trans ?_ (by assumption))))⟩
        case true =>
          have GG := Lib.hid (goodB_iff.1 hg)
          have HG := Lib.hid hg; clear hg
          have LN := Lib.hid (OV.out.1).1
          go_wp2_with fail
          refine (veText_any _ _ _ _ _ _ _ (pvS s) (pvH s) B5.out.1.ints B5.out.2.1.ints GG.out).mono ?_
          rintro e w6 ⟨rfl, n6⟩
          replace c0 := n6.cell c0
          replace c1 := n6.cell c1
          have RB6 := Lib.hid (RB5.out.new n6)
          have N6 := Lib.hid n6; clear n6
          have B6 := Lib.hid ((B5.out.new N6.out).mono (Nat.le_refl _) N6.out.size)
          have n2 := Lib.hid (nn.out.trans N6.out)
          have zz6 := N6.out.size
          obtain ⟨X, hX⟩ : ∃ X, X = outT (pvS s) (pvH s) a := ⟨_, rfl⟩
          rw [← hX]
          have EQ := Lib.hid (show X = outT (pvS s) (pvH s) (pvS s).length by rw [hX, ← LN.out]); clear hX
          obtain ⟨r0, r1, g0, g1⟩ := RB6.out
          by_cases hx : X = s
          · have YES := Lib.hid (pv_yes GG.out (show outT (pvS s) (pvH s) (pvS s).length = s by rw [← EQ.out]; exact hx))
            have hq : (X.toList == s.toList) = true := by rw [eqL]; exact decide_eq_true hx
            clear hx
            go_wp2
            refine bodyPost_ret (v := .tuple #[.agg #[.slice sa a sc, .slice sb b sd], .bool true]) (by simp [results, Tryd.results9, go_sem, r0, r1]) rfl ?_
            rw [YES.out.1, YES.out.2.1, YES.out.2.2]
            refine ⟨_, _, _, _, _, _, rfl, ?_, ?_⟩
            · have z1 := Z1.out
              exact ((B6.out.setCell (.inl (by simp; omega)) _).setCell (.inl (by simp; omega)) _).mono (by omega) (by simp)
            · have nn := n2.out
              exact (by repeat (first | with_reducible exact New.refl _ | with_reducible assumption | refine New.drewN ?_ _ | refine New.drew ?_ | refine New.alloc ?_ _ | refine New.setCell ?_ (by first | omega | (simp; omega) | (simp; done)) _ | (refine New.trans ?_ (by assumption))))
          · have NO := Lib.hid (show pvB s = false by unfold pvB; rw [decide_eq_false (by rw [← EQ.out]; exact hx)]; simp)
            have hq : (X.toList == s.toList) = false := by rw [eqL]; exact decide_eq_false hx
            clear hx
            go_wp2
            refine bodyPost_ret (v := .tuple #[.agg #[.slice none 0 0, .slice none 0 0], .bool false]) (by simp [results, Tryd.results9, go_sem, r0, r1]) rfl ?_
            rw [NO.out, (pv_false NO.out).1, (pv_false NO.out).2]
            have nn := n2.out
            exact ⟨none, 0, 0, none, 0, 0, rfl, OwnV.nil _ _ _, (by repeat (first | with_reducible exact New.refl _ | with_reducible assumption | refine New.drewN ?_ _ | refine New.drew ?_ | refine New.alloc ?_ _ | refine New.setCell ?_ (by first | omega | (simp; omega) | (simp; done)) _ | (refine New.trans ?_ (by assumption))))⟩
      · have hle : (k : Int) ≤ (s.size : Int) := by omega
        by_cases hlast : k = s.size
        · have BP := Lib.hid (BO.out.pushS EA.out x)
          have hke : ((k : Int) == (s.size : Int)) = true := by simp; omega
          have PL := Lib.hid (show pvX s (k + 1) = (((pvX s k).1.1 ++ [(pvX s k).2], (pvX s k).1.2), 0) by rw [hlast]; exact pvX_last s)
          have HL := Lib.hid (show k ≤ s.size by omega)
          clear hlast
          go_wp2_with (at_builtin; refine wpList_append_lies _ (by rfl) (.tmp 30) (.tmp 32) 22 (by rfl) (B1 + 1) 3 i0 (.int .i64 0) 1 8 Tryd.underlying22 hi hz0 hz1 hz2 rfl (by decide) vS a _ (by rfl) (ownsRow_new BP.out.s.own (by repeat (first | with_reducible exact New.refl _ | with_reducible assumption | refine New.drewN ?_ _ | refine New.drew ?_ | refine New.alloc ?_ _ | refine New.setCell ?_ (by first | omega | (simp; omega) | (simp; done)) _ | (refine New.trans ?_ (by assumption))))) _ _ _ [.int .i64 x] (by rfl) (by rfl) (World.news_of_block (cs := #[.int .i64 x]) (t := 3) (fr := (0, 0)) (heap_alloc_new wr _)) (by simp [Value.oneCell']) (by omega) (by unfold maxLen; omega) (by omega) (by simp; omega) _ rfl ?_; intro g cap w' ho hg hb' hlt'; have kk := (BP.out.s.new (by repeat (first | with_reducible exact New.refl _ | with_reducible assumption | refine New.drewN ?_ _ | refine New.drew ?_ | refine New.alloc ?_ _ | refine New.setCell ?_ (by first | omega | (simp; omega) | (simp; done)) _ | (refine New.trans ?_ (by assumption))))).keep hg (World.cell_kept c0) (New.frz (by repeat (first | with_reducible exact New.refl _ | with_reducible assumption | refine New.drewN ?_ _ | refine New.drew ?_ | refine New.alloc ?_ _ | refine New.setCell ?_ (by first | omega | (simp; omega) | (simp; done)) _ | (refine New.trans ?_ (by assumption)))) c0 f0); obtain ⟨k1, k2⟩ := kk; have HO := Lib.hid ho; have HG := Lib.hid hg; have HB := Lib.hid hb'; clear ho hg hb' hlt')
          have b2 := Lib.hid ((BP.out.kept (by repeat (first | with_reducible exact New.refl _ | with_reducible assumption | refine New.drewN ?_ _ | refine New.drew ?_ | refine New.alloc ?_ _ | refine New.setCell ?_ (by first | omega | (simp; omega) | (simp; done)) _ | (refine New.trans ?_ (by assumption))))).first (by rw [EA.out]; simp) (by rw [EA.out]; simp) HO.out HG.out HB.out)
          have XE := Lib.hid (PL.out)
          go_wp2
          go_roundw
          case rel =>
            exact ⟨k + 1, _, _, a + 1, b, by have := HL.out; omega, by first | rfl | go_num, by rw [XE.out], by rw [XE.out]; simp [EA.out, EX.out], by rw [XE.out]; simp only; rw [EB.out, EX.out.2.1], by rw [XE.out]; simp only; rw [← EX.out.1, ← EX.out.2.1, ← EX.out.2.2]; exact b2.out⟩
          case measure => show s.size + 1 - ((k : Int) + 1).toNat < s.size + 1 - (k : Int).toNat; omega
        · have hlt : k < s.size := by omega
          have hnb : ((k : Int) == (s.size : Int)) = false := by simp; omega
          have hg := getD_toNat s k hlt
          have hbt := (byA s k).toNat_lt
          have P44 := Lib.hid (pvX_comma hlt)
          have P47 := Lib.hid (pvX_bar hlt)
          have PD := Lib.hid (pvX_dig hlt)
          have PE := Lib.hid (pvX_else hlt)
          obtain ⟨z, hz⟩ : ∃ z, z = (byA s k).toNat := ⟨_, rfl⟩
          rw [← hz] at hg hbt P44 P47 PD PE
          clear hz
          by_cases q44 : z = 44
          · subst q44
            have BP := Lib.hid (BO.out.pushS EA.out x)
            go_wp2_with (at_builtin; refine wpList_append_lies _ (by rfl) (.tmp 30) (.tmp 32) 22 (by rfl) (B1 + 1) 3 i0 (.int .i64 0) 1 8 Tryd.underlying22 hi hz0 hz1 hz2 rfl (by decide) vS a _ (by rfl) (ownsRow_new BP.out.s.own (by repeat (first | with_reducible exact New.refl _ | with_reducible assumption | refine New.drewN ?_ _ | refine New.drew ?_ | refine New.alloc ?_ _ | refine New.setCell ?_ (by first | omega | (simp; omega) | (simp; done)) _ | (refine New.trans ?_ (by assumption))))) _ _ _ [.int .i64 x] (by rfl) (by rfl) (World.news_of_block (cs := #[.int .i64 x]) (t := 3) (fr := (0, 0)) (heap_alloc_new wr _)) (by simp [Value.oneCell']) (by omega) (by unfold maxLen; omega) (by omega) (by simp; omega) _ rfl ?_; intro g cap w' ho hg hb' hlt'; have kk := (BP.out.s.new (by repeat (first | with_reducible exact New.refl _ | with_reducible assumption | refine New.drewN ?_ _ | refine New.drew ?_ | refine New.alloc ?_ _ | refine New.setCell ?_ (by first | omega | (simp; omega) | (simp; done)) _ | (refine New.trans ?_ (by assumption))))).keep hg (World.cell_kept c0) (New.frz (by repeat (first | with_reducible exact New.refl _ | with_reducible assumption | refine New.drewN ?_ _ | refine New.drew ?_ | refine New.alloc ?_ _ | refine New.setCell ?_ (by first | omega | (simp; omega) | (simp; done)) _ | (refine New.trans ?_ (by assumption)))) c0 f0); obtain ⟨k1, k2⟩ := kk; have HO := Lib.hid ho; have HG := Lib.hid hg; have HB := Lib.hid hb'; clear ho hg hb' hlt')
            have b2 := Lib.hid ((BP.out.kept (by repeat (first | with_reducible exact New.refl _ | with_reducible assumption | refine New.drewN ?_ _ | refine New.drew ?_ | refine New.alloc ?_ _ | refine New.setCell ?_ (by first | omega | (simp; omega) | (simp; done)) _ | (refine New.trans ?_ (by assumption))))).first (by rw [EA.out]; simp) (by rw [EA.out]; simp) HO.out HG.out HB.out)
            have XE := Lib.hid (P44.out rfl)
            go_wp2
            go_roundw
            case rel =>
              exact ⟨k + 1, _, _, a + 1, b, by omega, by first | rfl | go_num, by rw [XE.out], by rw [XE.out]; simp [EA.out, EX.out], by rw [XE.out]; simp only; rw [EB.out, EX.out.2.1], by rw [XE.out]; simp only; rw [← EX.out.1, ← EX.out.2.1, ← EX.out.2.2]; exact b2.out⟩
            case measure => show s.size + 1 - ((k : Int) + 1).toNat < s.size + 1 - (k : Int).toNat; omega
          · have b44 : ((z : Int) == 44) = false := by simp; omega
            by_cases q47 : z = 47
            · subst q47
              have BP := Lib.hid (BO.out.pushH EB.out x)
              go_wp2_with (at_builtin; refine wpList_append_lies _ (by rfl) (.tmp 41) (.tmp 43) 22 (by rfl) (B1 + 1) 3 i0 (.int .i64 0) 1 8 Tryd.underlying22 hi hz0 hz1 hz2 rfl (by decide) vH b _ (by rfl) (ownsRow_new BP.out.h.own (by repeat (first | with_reducible exact New.refl _ | with_reducible assumption | refine New.drewN ?_ _ | refine New.drew ?_ | refine New.alloc ?_ _ | refine New.setCell ?_ (by first | omega | (simp; omega) | (simp; done)) _ | (refine New.trans ?_ (by assumption))))) _ _ _ [.int .i64 x] (by rfl) (by rfl) (World.news_of_block (cs := #[.int .i64 x]) (t := 3) (fr := (0, 0)) (heap_alloc_new wr _)) (by simp [Value.oneCell']) (by omega) (by unfold maxLen; omega) (by omega) (by simp; omega) _ rfl ?_; intro g cap w' ho hg hb' hlt'; have kk := (BP.out.h.new (by repeat (first | with_reducible exact New.refl _ | with_reducible assumption | refine New.drewN ?_ _ | refine New.drew ?_ | refine New.alloc ?_ _ | refine New.setCell ?_ (by first | omega | (simp; omega) | (simp; done)) _ | (refine New.trans ?_ (by assumption))))).keep hg (World.cell_kept c1) (New.frz (by repeat (first | with_reducible exact New.refl _ | with_reducible assumption | refine New.drewN ?_ _ | refine New.drew ?_ | refine New.alloc ?_ _ | refine New.setCell ?_ (by first | omega | (simp; omega) | (simp; done)) _ | (refine New.trans ?_ (by assumption)))) c1 f1); obtain ⟨k1, k2⟩ := kk; have HO := Lib.hid ho; have HG := Lib.hid hg; have HB := Lib.hid hb'; clear ho hg hb' hlt')
              have b2 := Lib.hid ((BP.out.kept (by repeat (first | with_reducible exact New.refl _ | with_reducible assumption | refine New.drewN ?_ _ | refine New.drew ?_ | refine New.alloc ?_ _ | refine New.setCell ?_ (by first | omega | (simp; omega) | (simp; done)) _ | (refine New.trans ?_ (by assumption))))).second (by rw [EB.out]; simp) (by rw [EB.out]; simp) HO.out HG.out HB.out)
              have XE := Lib.hid (P47.out rfl)
              go_wp2
              go_roundw
              case rel =>
                exact ⟨k + 1, _, _, a, b + 1, by omega, by first | rfl | go_num, by rw [XE.out], by rw [XE.out]; simp only; rw [EA.out, EX.out.1], by rw [XE.out]; simp [EB.out, EX.out], by rw [XE.out]; simp only; rw [← EX.out.1, ← EX.out.2.1, ← EX.out.2.2]; exact b2.out⟩
              case measure => show s.size + 1 - ((k : Int) + 1).toNat < s.size + 1 - (k : Int).toNat; omega
            · have b47 : ((z : Int) == 47) = false := by simp; omega
              by_cases qe : (48 : Int) ≤ (z : Int)
              · by_cases qf : (z : Int) ≤ 57
                · have XE := Lib.hid (PD.out (by omega) (by omega))
                  have wu : IntKind.u8.wrap ((z : Int) - 48) = (z : Int) - 48 := by simp [IntKind.wrap, IntKind.bits, IntKind.signed]; omega
                  have wi : IntKind.i64.wrap ((z : Int) - 48) = (z : Int) - 48 := IntWalk.i64_in _ (by omega)
                  go_wp2_with fail
                  refine (l1Least_any _ _ _).mono ?_
                  rintro e w9 ⟨rfl, rfl⟩
                  go_wp2
                  go_roundw
                  case rel => exact ⟨k + 1, _, _, a, b, by omega, by first | rfl | go_num, by rw [XE.out, ← EX.out.2.2], by rw [XE.out]; simp only; rw [EA.out, EX.out.1], by rw [XE.out]; simp only; rw [EB.out, EX.out.2.1], by rw [XE.out]; simp only; rw [← EX.out.1, ← EX.out.2.1]; exact BO.out⟩
                  case measure => show s.size + 1 - ((k : Int) + 1).toNat < s.size + 1 - (k : Int).toNat; omega
                · have XE := Lib.hid (PE.out q44 q47 (by omega))
                  have qf1 : (57 : Int) < (z : Int) := by omega
                  go_wp2
                  go_roundw
                  case rel => exact ⟨k + 1, _, _, a, b, by omega, by first | rfl | go_num, by rw [XE.out, ← EX.out.2.2], by rw [XE.out, EA.out, EX.out.1], by rw [XE.out, EB.out, EX.out.2.1], by rw [XE.out, ← EX.out.1, ← EX.out.2.1]; exact BO.out⟩
                  case measure => show s.size + 1 - ((k : Int) + 1).toNat < s.size + 1 - (k : Int).toNat; omega
              · have XE := Lib.hid (PE.out q44 q47 (by omega))
                have qe1 : (z : Int) < 48 := by omega
                go_wp2
                go_roundw
                case rel => exact ⟨k + 1, _, _, a, b, by omega, by first | rfl | go_num, by rw [XE.out, ← EX.out.2.2], by rw [XE.out, EA.out, EX.out.1], by rw [XE.out, EB.out, EX.out.2.1], by rw [XE.out, ← EX.out.1, ← EX.out.2.1]; exact BO.out⟩
                case measure => show s.size + 1 - ((k : Int) + 1).toNat < s.size + 1 - (k : Int).toNat; omega
  · have h30' : 30 < (s.size : Int) := by omega
    have NO := Lib.hid (pv_long (s := s) (by omega))
    go_enter Tryd.func9, Tryd.ntmps9
    go_wp2
    refine bodyPost_ret (v := .tuple #[.agg #[.slice none 0 0, .slice none 0 0], .bool false]) (by simp [results, Tryd.results9, go_sem]) rfl ?_
    rw [NO.out.1, NO.out.2.1, NO.out.2.2]
    exact ⟨none, 0, 0, none, 0, 0, rfl, OwnV.nil _ _ _, (by repeat (first | with_reducible exact New.refl _ | with_reducible assumption | refine New.drewN ?_ _ | refine New.drew ?_ | refine New.alloc ?_ _ | refine New.setCell ?_ (by first | omega | (simp; omega) | (simp; done)) _ | (refine New.trans ?_ (by assumption))))⟩

set_option maxRecDepth 100000 in
theorem sParseVessels_any (w : World) (s : ByteArray) (hs : s.size ≤ 1048576) : Calls Tryd.prog 4 #[.string s] w (RetV w (pvMS s) (pvMH s) (pvB s)) := by
  go_enter Tryd.func4, Tryd.ntmps4
  go_wp2_with fail
  refine (veParse_any _ s hs).mono ?_
  rintro e w1 ⟨sa, n, sc, sb, m, sd, rfl, ov, n1⟩
  have R1 := Lib.hid (Box0.new (B := w.heap.size) ⟨by simp [go_sem], by simp [go_sem], by simp [go_sem], by simp [go_sem]⟩ n1)
  have OV := Lib.hid ov; clear ov
  have N1 := Lib.hid (show New w w1 from New.trans (by repeat (first | with_reducible exact New.refl _ | with_reducible assumption | refine New.drewN ?_ _ | refine New.drew ?_ | refine New.alloc ?_ _ | refine New.setCell ?_ (by first | omega | (simp; omega) | (simp; done)) _ | (refine New.trans ?_ (by assumption)))) n1)
  have z0 := n1.size
  simp only [World.size_alloc] at z0
  clear n1
  obtain ⟨r0, r1, g0, g1⟩ := R1.out
  go_wp2
  refine bodyPost_ret (v := .tuple #[.agg #[.slice sa n sc, .slice sb m sd], .bool (pvB s)]) (by simp [results, Tryd.results4, go_sem, r0, r1]) rfl ?_
  refine ⟨_, _, _, _, _, _, rfl, ?_, ?_⟩
  · exact ((OV.out.setCell (.inl (by simp)) _).setCell (.inl (by simp)) _).mono (by simp) (by simp)
  · have nn := N1.out
    exact (by repeat (first | with_reducible exact New.refl _ | with_reducible assumption | refine New.drewN ?_ _ | refine New.drew ?_ | refine New.alloc ?_ _ | refine New.setCell ?_ (by first | omega | (simp; omega) | (simp; done)) _ | (refine New.trans ?_ (by assumption))))
end Go.Proofs.YtknjobpdbbjeoaaDoor
