/- The program's search for the levels that come again. -/
import Derived.Test.YtafiihhiipfejaaChTick
import Derived.Test.YtafiihhiipfejaaChainI
import Derived.Test.YtafiihhiipfejaaTicks
namespace Go.Proofs.Ytafiihhiipfejaa
open Go.RowKit Go.Maps

theorem there_of_block {w w' : World} {b o n : Nat} (h : w.there b o n) (e : w'.heap[b]? = w.heap[b]?) : w'.there b o n := fun j hj => by
  obtain ⟨h1, h2⟩ := h j hj
  refine ⟨?_, ?_⟩
  · rw [World.cell?_of_block (a := ⟨b, o + j, none⟩) e]; exact h1
  · unfold World.frozen? at h2 ⊢
    rw [e]; exact h2
theorem Box8.of_block {W W' : World} {B : Nat} {L : List (Int × Bool)} (h : Box8 W B L) (e : W'.heap[B]? = W.heap[B]?) (hz : W.heap.size ≤ W'.heap.size) : Box8 W' B L where
  lt := by have := h.lt; omega
  c0 := fun i hi => (World.cell?_of_block (a := ⟨B, i * 2, none⟩) e).trans (h.c0 i hi)
  c1 := fun i hi => (World.cell?_of_block (a := ⟨B, i * 2 + 1, none⟩) e).trans (h.c1 i hi)
  frozen := fun k => by have := h.frozen k; unfold World.frozen? at this ⊢; rw [e]; exact this
theorem ownsMap_of_block {w w' : World} {P : Program} {k : TypeId} {R : Value → Option (DataW Unit × List MemPlace)} {b n : Nat} {D : DataW Unit} (h : w.ownsMap P k R b n D) (e : w'.heap[b]? = w.heap[b]?) : w'.ownsMap P k R b n D := by
  obtain ⟨es, clock, hb, r⟩ := h
  exact ⟨es, clock, e.trans hb, r⟩
theorem heap_setCells_other {B i : Nat} (hi : i ≠ B) : ∀ (vs : List Value) (w : World) (o : Nat), (w.setCells B o vs).heap[i]? = w.heap[i]? := by
  intro vs
  induction vs with
  | nil => intro w o; rfl
  | cons v r ih => intro w o; exact (ih _ _).trans (Below.heap_setCell _ _ _ _ (by simpa using hi))
theorem Below.setCells {C B : Nat} (hC : C ≤ B) {a : World} : ∀ (vs : List Value) (b : World) (_ : Below C a b) (o : Nat), Below C a (b.setCells B o vs) := by
  intro vs
  induction vs with
  | nil => intro b h o; exact h
  | cons v r ih => intro b h o; exact ih _ (h.setCell hC _) (o + 1)
theorem Below.grownMap {B : Nat} {v0 wr w' : World} (h : Below B v0 wr) (hB : B ≤ wr.heap.size) (hg : wr.grownBy w' (some B)) : Below B v0 w' :=
  h.trans ⟨hg.os, hg.tape, hg.output, hg.size, fun k hk => hg.block k (by omega) (fun e => by cases e; omega)⟩
def roundC (B : Nat) (L : List (Int × Bool)) : List Value := .map (some B) :: fourC L
theorem roundC_one (B : Nat) (M : List (Int × Bool)) : ((roundC B M).toArray.all fun x => x.oneCell') = true :=
  all_oneCell_toArray (by intro v hv; simp [roundC] at hv; rcases hv with rfl | rfl | rfl | rfl | rfl | rfl | rfl | rfl | rfl <;> rfl)
abbrev roundV (B : Nat) (L : List (Int × Bool)) : Value := .agg (roundC B L).toArray
theorem res_roundOf {tmps : Array Value} {W : World} {R B : Nat} {L : List (Int × Bool)} {b : Bool} (ht : tmps[4]?.getD undef = .pointer (some ⟨R, 0, none⟩)) (hb : tmps[5]?.getD undef = .bool b) (h : W.rangeAt R 0 (roundC B L)) :
    (results Try.f36 tmps).run Try.prog W = .ok (.tuple #[roundV B L, .bool b]) W := by
  have e : ∀ j v, (roundC B L)[j]? = some v → W.cell? ⟨R, j, none⟩ = some v := fun j v hv => by
    have := h j v hv
    simpa using this
  have d0 := e 0 _ rfl
  have d1 := e 1 _ rfl
  have d2 := e 2 _ rfl
  have d3 := e 3 _ rfl
  have d4 := e 4 _ rfl
  have d5 := e 5 _ rfl
  have d6 := e 6 _ rfl
  have d7 := e 7 _ rfl
  have d8 := e 8 _ rfl
  simp [results, Try.results36, go_sem, ht, hb, d0, d1, d2, d3, d4, d5, d6, d7, d8, roundC]

def RoundPost (kf : List (Int × Bool) → Lit) (F : Nat → List (Int × Bool)) (N K : Nat) (w : World) (e : Ending) (w' : World) : Prop :=
  ∃ (B : Nat) (D : DataW Unit), e = .returned (.tuple #[roundV B (F K), .bool true]) ∧ w.heap.size ≤ B ∧ w'.ownsMap Try.prog 62 (plainElem Try.prog 3) B N D ∧ Ticks kf D F (fun j => decide (K ≤ j)) N ∧ New w w'

theorem apart_of {kf : List (Int × Bool) → Lit} (K : KeyFn kf) {l : List (Int × Int × Int × Int)} {x : Int} (hc : ChainOk l) (x0 : 0 ≤ x) (x1 : x ≤ 60) {n : Nat} (h : ∀ i j, i < j → j < n → chSt l x i ≠ chSt l x j) : Apart kf (chSt l x) n := by
  have ok := chSt_ok (x := x) hc x0 x1
  have inj : ∀ i j, kf (chSt l x i) = kf (chSt l x j) → chSt l x i = chSt l x j := fun i j e => kf_inj K (ok i).1 (ok j).1 (ok i).2.2 (ok j).2.2 e
  intro i j hi hj e
  rcases Nat.lt_trichotomy i j with q | q | q
  · exact absurd (inj i j e) (h i j q hj)
  · exact q
  · exact absurd (inj i j e).symm (h j i q hi)

set_option maxRecDepth 100000 in
set_option maxHeartbeats 8000000 in
theorem roundOf_yes {kf : List (Int × Bool) → Lit} (hkf : KeyFn kf) (w : World) (aa : Option Addr) (n ca : Nat) (l : List (Int × Int × Int × Int)) (x : Int) (N K : Nat) (ha : Siphons w aa n ca l) (hc : chainB l = true) (hx : inB 0 60 x = true) (hm : Meets (chSt l x) N K) (hN : N ≤ 5000) :
    Calls Try.prog 36 #[.slice aa n ca, .int .i64 x] w (RoundPost kf (chSt l x) N K w) := by
  obtain ⟨x0, x1⟩ := inB_iff.1 hx
  have HA := Lib.hid ha; clear ha
  have CO := Lib.hid (chainB_iff.1 hc)
  have KF := Lib.hid hkf; clear hkf
  have OK := Lib.hid (chSt_ok (x := x) CO.out x0 x1)
  have AP := Lib.hid (apart_of KF.out CO.out x0 x1 hm.1)
  have KN : K < N := hm.2.1
  have ME := Lib.hid hm; clear hm
  have hmm := @run_makeMap Try.prog
  go_enter Try.func36, Try.ntmps36
  go_wp2_with fail
  refine (isChain_any _ _ _ _ l (HA.out.new (by repeat (first | with_reducible exact New.refl _ | with_reducible assumption | refine New.drewN ?_ _ | refine New.drew ?_ | refine New.alloc ?_ _ | refine New.setCell ?_ (by first | omega | (simp; omega) | (simp; done)) _ | (refine New.trans ?_ (by assumption)))))).mono ?_
  rintro e w1 ⟨rfl, n1⟩
  have M1 := Lib.hid n1; clear n1
  go_wp2_with fail
  refine (isInflow_any _ _).mono ?_
  rintro e w9 ⟨rfl, rfl⟩
  clear hc
  have th : w1.there w.heap.size 0 9 := by
    intro j hj
    rw [Nat.zero_add]
    match j, hj with
    | 0, _ => exact ⟨by rw [M1.out.cell (p := ⟨w.heap.size, 0, none⟩) (v := .map none) (by simp [go_sem])]; rfl, M1.out.frz (v := .map none) (by simp [go_sem]) (by simp [go_sem])⟩
    | 1, _ => exact ⟨by rw [M1.out.cell (p := ⟨w.heap.size, 1, none⟩) (v := .int .i64 0) (by simp [go_sem])]; rfl, M1.out.frz (v := .int .i64 0) (by simp [go_sem]) (by simp [go_sem])⟩
    | 2, _ => exact ⟨by rw [M1.out.cell (p := ⟨w.heap.size, 2, none⟩) (v := .bool false) (by simp [go_sem])]; rfl, M1.out.frz (v := .bool false) (by simp [go_sem]) (by simp [go_sem])⟩
    | 3, _ => exact ⟨by rw [M1.out.cell (p := ⟨w.heap.size, 3, none⟩) (v := .int .i64 0) (by simp [go_sem])]; rfl, M1.out.frz (v := .int .i64 0) (by simp [go_sem]) (by simp [go_sem])⟩
    | 4, _ => exact ⟨by rw [M1.out.cell (p := ⟨w.heap.size, 4, none⟩) (v := .bool false) (by simp [go_sem])]; rfl, M1.out.frz (v := .bool false) (by simp [go_sem]) (by simp [go_sem])⟩
    | 5, _ => exact ⟨by rw [M1.out.cell (p := ⟨w.heap.size, 5, none⟩) (v := .int .i64 0) (by simp [go_sem])]; rfl, M1.out.frz (v := .int .i64 0) (by simp [go_sem]) (by simp [go_sem])⟩
    | 6, _ => exact ⟨by rw [M1.out.cell (p := ⟨w.heap.size, 6, none⟩) (v := .bool false) (by simp [go_sem])]; rfl, M1.out.frz (v := .bool false) (by simp [go_sem]) (by simp [go_sem])⟩
    | 7, _ => exact ⟨by rw [M1.out.cell (p := ⟨w.heap.size, 7, none⟩) (v := .int .i64 0) (by simp [go_sem])]; rfl, M1.out.frz (v := .int .i64 0) (by simp [go_sem]) (by simp [go_sem])⟩
    | 8, _ => exact ⟨by rw [M1.out.cell (p := ⟨w.heap.size, 8, none⟩) (v := .bool false) (by simp [go_sem])]; rfl, M1.out.frz (v := .bool false) (by simp [go_sem]) (by simp [go_sem])⟩
  have zR : w.heap.size < w1.heap.size := by have := M1.out.size; simp at this; omega
  go_wp2
  obtain ⟨v0, hv0⟩ : ∃ v, v = (w1.alloc (.map #[] 0)).alloc (.cells #[.int .i64 0, .bool false, .int .i64 0, .bool false, .int .i64 0, .bool false, .int .i64 0, .bool false] 62) := ⟨_, rfl⟩
  rw [← hv0]
  have nv : New w1 v0 := by rw [hv0]; exact (by repeat (first | with_reducible exact New.refl _ | with_reducible assumption | refine New.drewN ?_ _ | refine New.drew ?_ | refine New.alloc ?_ _ | refine New.setCell ?_ (by first | omega | (simp; omega) | (simp; done)) _ | (refine New.trans ?_ (by assumption))))
  have zv : w1.heap.size + 1 < v0.heap.size := by rw [hv0]; simp
  have o1 : v0.ownsMap Try.prog 62 (plainElem (H := Unit) Try.prog 3) w1.heap.size 0 (.map []) := by
    rw [hv0]
    have q := World.ownsMap_made w1 (P := Try.prog) 62 (plainElem (H := Unit) Try.prog 3)
    exact q.kept (World.grownBy_alloc _ _ none) (by simp)
  have b1 : Box8 v0 (w1.heap.size + 1) (chSt l x 0) := by
    rw [hv0]
    have q := Box8.made (w1.alloc (.map #[] 0)) zero4 62
    simpa [zero4, lvAt, chSt] using q
  have TH := Lib.hid (there_of_block th (nv.block _ zR)); clear th
  have NV := Lib.hid (show New w v0 from New.trans (New.trans (by repeat (first | with_reducible exact New.refl _ | with_reducible assumption | refine New.drewN ?_ _ | refine New.drew ?_ | refine New.alloc ?_ _ | refine New.setCell ?_ (by first | omega | (simp; omega) | (simp; done)) _ | (refine New.trans ?_ (by assumption)))) M1.out) nv); clear nv
  have O1 := Lib.hid o1; clear o1
  have B1 := Lib.hid b1; clear b1
  clear hv0 hmm
  go_loopw [8] (fun i wr => ∃ (k : Nat) (D : DataW Unit), k ≤ N ∧ i = .int .i64 k ∧ wr.ownsMap Try.prog 62 (plainElem Try.prog 3) w1.heap.size k D ∧ Ticks kf D (chSt l x) (fun _ => true) k ∧ Box8 wr (w1.heap.size + 1) (chSt l x k) ∧ Below w1.heap.size v0 wr) (fun i _ => N + 1 - (intOf i).toNat)
  case atStart => exact ⟨0, _, Nat.zero_le _, rfl, O1.out, Ticks.nil _ _, B1.out, Below.refl _ _⟩
  case round =>
    obtain ⟨k, D, hk, rfl, ho, ht, hb, hbl⟩ := hrel
    have OM := Lib.hid ho; clear ho
    have TT := Lib.hid ht; clear ht
    have BX := Lib.hid hb; clear hb
    have BL := Lib.hid hbl; clear hbl
    have NW := Lib.hid (show New w wr from Below.trans NV.out (Below.mono BL.out (by omega)))
    have HK := Lib.hid (KF.out (chSt l x k) (OK.out k).2.2)
    have zb := BX.out.lt
    have k5 : (k : Int) ≤ 5000 := by omega
    by_cases hlt : k < N
    · have HF := Lib.hid (show has D (kf (chSt l x k)) = false by
        rw [← Bool.not_eq_true, TT.out.has_]
        rintro ⟨i, hi, _, e⟩
        have := AP.out i k (by omega) hlt e
        omega)
      go_wp2_with (first
        | (refine wpList_load_mid rfl 62 _ rfl (w1.heap.size + 1) 0 rfl (fourC (chSt l x k)) _ BX.out.range Try.underlying62 rfl (by kernel_rfl) ?_)
        | (at_lookup; refine wpList_lookup_own_ok_int _ rfl _ _ 60 rfl 62 3 .i64 chLaw Try.underlying60 Try.underlying3 (by kernel_rfl) w1.heap.size k D rfl OM.out _ (kf (chSt l x k)) rfl HK.out ?_; intro c hat hwc; rw [HF.out]; clear hat hwc)
        | (at_mapUpdate; go_loud (refine wpList_mapUpdate_own _ rfl _ _ _ 60 rfl 62 3 chLaw Try.underlying60 (plainElem Try.prog 3) w1.heap.size k D rfl OM.out (by unfold maxLen; omega) _ _ (kf (chSt l x k)) rfl rfl HK.out _ [] (plainElem_int Try.underlying3 (WalkArith.wf_i64 (by omega))) ?_; intro w2 ho2 hg2; have zq : w1.heap.size + 1 < w2.heap.size := Nat.lt_of_lt_of_le zb hg2.size; replace BX := Lib.hid (BX.out.of_block (hg2.block _ zb (fun e => by simp at e)) hg2.size); replace BL := Lib.hid (Below.grownMap BL.out (by omega) hg2); have TP := Lib.hid (TT.out.put (OM.out.tidy chLaw) (chLaw.key HK.out) (fun i hi e => by have := AP.out i k (by omega) hlt e; omega)); replace OM := Lib.hid ho2; replace NW := Lib.hid (show New w w2 from Below.trans NV.out (Below.mono BL.out (by omega))); clear ho2 hg2))
        | (go_at_call 52; refine (chainTick_any _ _ _ _ l (chSt l x k) x (HA.out.new NW.out) CO.out (OK.out k) x0 x1).mono ?_; rintro e w3 ⟨rfl, n3⟩; replace BX := Lib.hid (BX.out.new n3); replace BL := Lib.hid (BL.out.trans (Below.mono n3 (by have := zq; omega))); replace OM := Lib.hid (ownsMap_of_block OM.out (n3.block _ (by have := zq; omega))); clear n3)
        | (refine wpList_store_mid rfl 62 (.tmp 7) (.tmp 44) rfl (w1.heap.size + 1) 0 (fourC (chTick l (chSt l x k) x)).toArray rfl rfl (BX.out.room _) (by kernel_rfl) (fourC_one _) ?_; obtain ⟨w4, hw4⟩ : ∃ w4, w4 = w3.setCells (w1.heap.size + 1) 0 (fourC (chTick l (chSt l x k) x)).toArray.toList := ⟨_, rfl⟩; rw [← hw4]; have HW4 := Lib.hid hw4; clear hw4))
      go_roundw
      case rel =>
        rw [HW4.out]
        refine ⟨k + 1, _, by omega, by go_num, ownsMap_of_block OM.out (heap_setCells_other (by omega) _ _ _), TP.out, BX.out.fill _, Below.setCells (by omega) _ _ BL.out _⟩
      case measure => simp [intOf]; omega
    · obtain rfl : k = N := by omega
      have HF := Lib.hid (show has D (kf (chSt l x k)) = true by
        rw [TT.out.has_]
        exact ⟨K, KN, rfl, by rw [ME.out.2.2]⟩)
      have HC := Lib.hid (show D.atKey (kf (chSt l x k)) (.lit (.int .i64 0)) = .lit (.int .i64 K) by
        rw [← ME.out.2.2]
        exact TT.out.at_ K _ KN rfl)
      have TW := Lib.hid (there_of_block TH.out (BL.out.block _ zR))
      have HE := Lib.hid (show chSt l x K = chSt l x k from ME.out.2.2)
      go_wp2_with (first
        | (refine wpList_load_mid rfl 62 _ rfl (w1.heap.size + 1) 0 rfl (fourC (chSt l x k)) _ BX.out.range Try.underlying62 rfl (by kernel_rfl) ?_)
        | (at_lookup; refine wpList_lookup_own_ok_int _ rfl _ _ 60 rfl 62 3 .i64 chLaw Try.underlying60 Try.underlying3 (by kernel_rfl) w1.heap.size k D rfl OM.out _ (kf (chSt l x k)) rfl HK.out ?_; intro c hat hwc; rw [HF.out]; rw [HC.out] at hat; simp at hat; subst hat; clear hwc)
        | (go_at_call 51; refine (deleteBefore_any KF.out _ w1.heap.size k K D (chSt l x) OM.out TT.out AP.out (fun i j _ => (OK.out i).2.2 j)).mono ?_; rintro e w2 ⟨rfl, D2, ho2, ht2, hg2⟩; replace BX := Lib.hid (BX.out.of_block (hg2.block _ zb (fun e => by simp at e)) hg2.size); replace BL := Lib.hid (Below.grownMap BL.out (by omega) hg2); replace TW := Lib.hid (there_of_block TW.out (hg2.block _ (by omega) (fun e => by simp at e; omega))); have O2 := Lib.hid ho2; have T2 := Lib.hid ht2; clear ho2 ht2 hg2)
        | (refine wpList_store_mid rfl 64 (.tmp 4) (.tmp 37) rfl w.heap.size 0 (roundC w1.heap.size (chSt l x k)).toArray rfl rfl TW.out (by kernel_rfl) (roundC_one _ _) ?_; obtain ⟨w4, hw4⟩ : ∃ w4, w4 = w2.setCells w.heap.size 0 (roundC w1.heap.size (chSt l x k)).toArray.toList := ⟨_, rfl⟩; rw [← hw4]; have HW4 := Lib.hid hw4; clear hw4))
      have NF := Lib.hid (show New w w4 by
        rw [HW4.out]
        exact New.setCells (Below.trans NV.out (Below.mono BL.out (by omega))) (Nat.le_refl _) _ _)
      refine bodyPost_ret (v := .tuple #[roundV w1.heap.size (chSt l x k), .bool true]) ?_ rfl ⟨w1.heap.size, D2, by rw [HE.out], by omega, ?_, T2.out, NF.out⟩
      · refine res_roundOf rfl rfl ?_
        rw [HW4.out]
        exact World.rangeAt_setCells_same w2 w.heap.size 0 _ TW.out
      · rw [HW4.out]
        exact ownsMap_of_block O2.out (heap_setCells_other (by omega) _ _ _)
end Go.Proofs.Ytafiihhiipfejaa
