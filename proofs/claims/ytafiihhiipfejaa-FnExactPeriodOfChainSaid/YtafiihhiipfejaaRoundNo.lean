/- The program's search where no levels of a chain come again soon enough. -/
import Derived.Test.YtafiihhiipfejaaPer
namespace Go.Proofs.Ytafiihhiipfejaa
open Go.RowKit Go.Maps

set_option maxRecDepth 100000 in
set_option maxHeartbeats 8000000 in
theorem roundOf_no {kf : List (Int × Bool) → Lit} (hkf : KeyFn kf) (w : World) (aa : Option Addr) (n ca : Nat) (l : List (Int × Int × Int × Int)) (x : Int) (N : Nat) (ha : Siphons w aa n ca l) (hc : chainB l = true) (hx : inB 0 60 x = true) (hm : ∀ i j, i < j → j < N → chSt l x i ≠ chSt l x j) (hN : N = 5001) :
    Calls Try.prog 36 #[.slice aa n ca, .int .i64 x] w fun e w' => e = .returned (.tuple #[round0, .bool false]) ∧ New w w' := by
  obtain ⟨x0, x1⟩ := inB_iff.1 hx
  have HA := Lib.hid ha; clear ha
  have CO := Lib.hid (chainB_iff.1 hc)
  have KF := Lib.hid hkf; clear hkf
  have OK := Lib.hid (chSt_ok (x := x) CO.out x0 x1)
  have AP := Lib.hid (apart_of KF.out CO.out x0 x1 hm)
  have HN := Lib.hid hN; clear hm
  have hmm := @run_makeMap Try.prog
  go_enter Try.func36, Try.ntmps36
  go_wp2_with fail
  refine (isChain_any _ _ _ _ l (HA.out.new (by repeat (first | with_reducible exact New.refl _ | with_reducible assumption | refine New.drewN ?_ _ | refine New.drew ?_ | refine New.alloc ?_ _ | refine New.setCell ?_ (by first | omega | (simp; omega) | (simp; done)) _ | (refine New.trans ?_ (by assumption)))))).mono ?_
  rintro e w1 ⟨rfl, n1⟩
  have M1 := Lib.hid n1; clear n1
  go_wp2_with fail
  refine (isInflow_any _ _).mono ?_
  rintro e w9 ⟨rfl, rfl⟩
  clear hc
  have th : w1.there w.heap.size 0 9 := by
    intro j hj
    rw [Nat.zero_add]
    match j, hj with
    | 0, _ => exact ⟨by rw [M1.out.cell (p := ⟨w.heap.size, 0, none⟩) (v := .map none) (by simp [go_sem])]; rfl, M1.out.frz (v := .map none) (by simp [go_sem]) (by simp [go_sem])⟩
    | 1, _ => exact ⟨by rw [M1.out.cell (p := ⟨w.heap.size, 1, none⟩) (v := .int .i64 0) (by simp [go_sem])]; rfl, M1.out.frz (v := .int .i64 0) (by simp [go_sem]) (by simp [go_sem])⟩
    | 2, _ => exact ⟨by rw [M1.out.cell (p := ⟨w.heap.size, 2, none⟩) (v := .bool false) (by simp [go_sem])]; rfl, M1.out.frz (v := .bool false) (by simp [go_sem]) (by simp [go_sem])⟩
    | 3, _ => exact ⟨by rw [M1.out.cell (p := ⟨w.heap.size, 3, none⟩) (v := .int .i64 0) (by simp [go_sem])]; rfl, M1.out.frz (v := .int .i64 0) (by simp [go_sem]) (by simp [go_sem])⟩
    | 4, _ => exact ⟨by rw [M1.out.cell (p := ⟨w.heap.size, 4, none⟩) (v := .bool false) (by simp [go_sem])]; rfl, M1.out.frz (v := .bool false) (by simp [go_sem]) (by simp [go_sem])⟩
    | 5, _ => exact ⟨by rw [M1.out.cell (p := ⟨w.heap.size, 5, none⟩) (v := .int .i64 0) (by simp [go_sem])]; rfl, M1.out.frz (v := .int .i64 0) (by simp [go_sem]) (by simp [go_sem])⟩
    | 6, _ => exact ⟨by rw [M1.out.cell (p := ⟨w.heap.size, 6, none⟩) (v := .bool false) (by simp [go_sem])]; rfl, M1.out.frz (v := .bool false) (by simp [go_sem]) (by simp [go_sem])⟩
    | 7, _ => exact ⟨by rw [M1.out.cell (p := ⟨w.heap.size, 7, none⟩) (v := .int .i64 0) (by simp [go_sem])]; rfl, M1.out.frz (v := .int .i64 0) (by simp [go_sem]) (by simp [go_sem])⟩
    | 8, _ => exact ⟨by rw [M1.out.cell (p := ⟨w.heap.size, 8, none⟩) (v := .bool false) (by simp [go_sem])]; rfl, M1.out.frz (v := .bool false) (by simp [go_sem]) (by simp [go_sem])⟩
  have zR : w.heap.size < w1.heap.size := by have := M1.out.size; simp at this; omega
  go_wp2
  obtain ⟨v0, hv0⟩ : ∃ v, v = (w1.alloc (.map #[] 0)).alloc (.cells #[.int .i64 0, .bool false, .int .i64 0, .bool false, .int .i64 0, .bool false, .int .i64 0, .bool false] 62) := ⟨_, rfl⟩
  rw [← hv0]
  have nv : New w1 v0 := by rw [hv0]; exact (by repeat (first | with_reducible exact New.refl _ | with_reducible assumption | refine New.drewN ?_ _ | refine New.drew ?_ | refine New.alloc ?_ _ | refine New.setCell ?_ (by first | omega | (simp; omega) | (simp; done)) _ | (refine New.trans ?_ (by assumption))))
  have zv : w1.heap.size + 1 < v0.heap.size := by rw [hv0]; simp
  have o1 : v0.ownsMap Try.prog 62 (plainElem (H := Unit) Try.prog 3) w1.heap.size 0 (.map []) := by
    rw [hv0]
    have q := World.ownsMap_made w1 (P := Try.prog) 62 (plainElem (H := Unit) Try.prog 3)
    exact q.kept (World.grownBy_alloc _ _ none) (by simp)
  have b1 : Box8 v0 (w1.heap.size + 1) (chSt l x 0) := by
    rw [hv0]
    have q := Box8.made (w1.alloc (.map #[] 0)) zero4 62
    simpa [zero4, lvAt, chSt] using q
  have TH := Lib.hid (there_of_block th (nv.block _ zR)); clear th
  have NV := Lib.hid (show New w v0 from New.trans (New.trans (by repeat (first | with_reducible exact New.refl _ | with_reducible assumption | refine New.drewN ?_ _ | refine New.drew ?_ | refine New.alloc ?_ _ | refine New.setCell ?_ (by first | omega | (simp; omega) | (simp; done)) _ | (refine New.trans ?_ (by assumption)))) M1.out) nv); clear nv
  have O1 := Lib.hid o1; clear o1
  have B1 := Lib.hid b1; clear b1
  clear hv0 hmm
  go_loopw [8] (fun i wr => ∃ (k : Nat) (D : DataW Unit), k ≤ N ∧ i = .int .i64 k ∧ wr.ownsMap Try.prog 62 (plainElem Try.prog 3) w1.heap.size k D ∧ Ticks kf D (chSt l x) (fun _ => true) k ∧ Box8 wr (w1.heap.size + 1) (chSt l x k) ∧ Below w1.heap.size v0 wr) (fun i _ => N + 1 - (intOf i).toNat)
  case atStart => exact ⟨0, _, Nat.zero_le _, rfl, O1.out, Ticks.nil _ _, B1.out, Below.refl _ _⟩
  case round =>
    obtain ⟨k, D, hk, rfl, ho, ht, hb, hbl⟩ := hrel
    have OM := Lib.hid ho; clear ho
    have TT := Lib.hid ht; clear ht
    have BX := Lib.hid hb; clear hb
    have BL := Lib.hid hbl; clear hbl
    have NW := Lib.hid (show New w wr from Below.trans NV.out (Below.mono BL.out (by omega)))
    have HK := Lib.hid (KF.out (chSt l x k) (OK.out k).2.2)
    have zb := BX.out.lt
    by_cases hlt : k < N
    · have k5 : (k : Int) ≤ 5000 := by omega
      have HF := Lib.hid (show has D (kf (chSt l x k)) = false by
        rw [← Bool.not_eq_true, TT.out.has_]
        rintro ⟨i, hi, _, e⟩
        have := AP.out i k (by omega) hlt e
        omega)
      go_wp2_with (first
        | (refine wpList_load_mid rfl 62 _ rfl (w1.heap.size + 1) 0 rfl (fourC (chSt l x k)) _ BX.out.range Try.underlying62 rfl (by kernel_rfl) ?_)
        | (at_lookup; refine wpList_lookup_own_ok_int _ rfl _ _ 60 rfl 62 3 .i64 chLaw Try.underlying60 Try.underlying3 (by kernel_rfl) w1.heap.size k D rfl OM.out _ (kf (chSt l x k)) rfl HK.out ?_; intro c hat hwc; rw [HF.out]; clear hat hwc)
        | (at_mapUpdate; go_loud (refine wpList_mapUpdate_own _ rfl _ _ _ 60 rfl 62 3 chLaw Try.underlying60 (plainElem Try.prog 3) w1.heap.size k D rfl OM.out (by unfold maxLen; omega) _ _ (kf (chSt l x k)) rfl rfl HK.out _ [] (plainElem_int Try.underlying3 (WalkArith.wf_i64 (by omega))) ?_; intro w2 ho2 hg2; have zq : w1.heap.size + 1 < w2.heap.size := Nat.lt_of_lt_of_le zb hg2.size; replace BX := Lib.hid (BX.out.of_block (hg2.block _ zb (fun e => by simp at e)) hg2.size); replace BL := Lib.hid (Below.grownMap BL.out (by omega) hg2); have TP := Lib.hid (TT.out.put (OM.out.tidy chLaw) (chLaw.key HK.out) (fun i hi e => by have := AP.out i k (by omega) hlt e; omega)); replace OM := Lib.hid ho2; replace NW := Lib.hid (show New w w2 from Below.trans NV.out (Below.mono BL.out (by omega))); clear ho2 hg2))
        | (go_at_call 52; refine (chainTick_any _ _ _ _ l (chSt l x k) x (HA.out.new NW.out) CO.out (OK.out k) x0 x1).mono ?_; rintro e w3 ⟨rfl, n3⟩; replace BX := Lib.hid (BX.out.new n3); replace BL := Lib.hid (BL.out.trans (Below.mono n3 (by have := zq; omega))); replace OM := Lib.hid (ownsMap_of_block OM.out (n3.block _ (by have := zq; omega))); clear n3)
        | (refine wpList_store_mid rfl 62 (.tmp 7) (.tmp 44) rfl (w1.heap.size + 1) 0 (fourC (chTick l (chSt l x k) x)).toArray rfl rfl (BX.out.room _) (by kernel_rfl) (fourC_one _) ?_; obtain ⟨w4, hw4⟩ : ∃ w4, w4 = w3.setCells (w1.heap.size + 1) 0 (fourC (chTick l (chSt l x k) x)).toArray.toList := ⟨_, rfl⟩; rw [← hw4]; have HW4 := Lib.hid hw4; clear hw4))
      go_roundw
      case rel =>
        rw [HW4.out]
        refine ⟨k + 1, _, by omega, by go_num, ownsMap_of_block OM.out (heap_setCells_other (by omega) _ _ _), TP.out, BX.out.fill _, Below.setCells (by omega) _ _ BL.out _⟩
      case measure => simp [intOf]; omega
    · obtain rfl : k = N := by omega
      have k5 : ¬ ((k : Int) ≤ 5000) := by omega
      have TW := Lib.hid (there_of_block TH.out (BL.out.block _ zR))
      go_wp2_with (refine wpList_store_mid rfl 64 (.tmp 4) (.tmp 45) rfl w.heap.size 0 zero9.toArray rfl rfl TW.out (by kernel_rfl) zero9_one ?_; obtain ⟨w4, hw4⟩ : ∃ w4, w4 = wr.setCells w.heap.size 0 zero9.toArray.toList := ⟨_, rfl⟩; rw [← hw4]; have HW4 := Lib.hid hw4; clear hw4)
      have NF := Lib.hid (show New w w4 by
        rw [HW4.out]
        exact New.setCells NW.out (Nat.le_refl _) _ _)
      refine bodyPost_ret (v := .tuple #[round0, .bool false]) ?_ rfl ⟨rfl, NF.out⟩
      refine res_round0 rfl rfl ?_
      rw [HW4.out]
      exact World.rangeAt_setCells_same wr w.heap.size 0 _ TW.out

set_option maxRecDepth 100000 in
set_option maxHeartbeats 4000000 in
theorem iPeriodOfChain_no {kf : List (Int × Bool) → Lit} (hkf : KeyFn kf) (w : World) (aa : Option Addr) (n ca : Nat) (l : List (Int × Int × Int × Int)) (x : Int) (ha : Siphons w aa n ca l) (hc : chainB l = true) (hx : inB 0 60 x = true) (hm : ∀ i j, i < j → j < 5001 → chSt l x i ≠ chSt l x j) :
    Calls Try.prog 32 #[.slice aa n ca, .int .i64 x] w fun e w' => e = .returned (.tuple #[.int .i64 0, .int .i64 0, .bool false]) ∧ New w w' := by
  obtain ⟨kl, hkl⟩ := keyOf_four zero4 (fun i => by
    match i with
    | 0 => exact ⟨Int.le_refl _, by decide⟩
    | 1 => exact ⟨Int.le_refl _, by decide⟩
    | 2 => exact ⟨Int.le_refl _, by decide⟩
    | 3 => exact ⟨Int.le_refl _, by decide⟩
    | i + 4 => exact ⟨Int.le_refl _, show (0 : Int) ≤ 60 by decide⟩)
  have HK := Lib.hid hkl; clear hkl
  go_enter Try.func32, Try.ntmps32
  go_wp2_with fail
  refine (roundOf_no hkf _ _ _ _ l x 5001 ha hc hx hm rfl).mono ?_
  rintro e w1 ⟨rfl, n1⟩
  clear ha hc hx hm
  have N1 := Lib.hid n1; clear n1
  have th : (w1.alloc (.cells #[.map none, .int .i64 0, .bool false, .int .i64 0, .bool false, .int .i64 0, .bool false, .int .i64 0, .bool false] 64)).there w1.heap.size 0 9 := by
    intro j hj
    rw [Nat.zero_add]
    match j, hj with
    | 0, _ => exact ⟨by simp [go_sem], by simp [go_sem]⟩
    | 1, _ => exact ⟨by simp [go_sem], by simp [go_sem]⟩
    | 2, _ => exact ⟨by simp [go_sem], by simp [go_sem]⟩
    | 3, _ => exact ⟨by simp [go_sem], by simp [go_sem]⟩
    | 4, _ => exact ⟨by simp [go_sem], by simp [go_sem]⟩
    | 5, _ => exact ⟨by simp [go_sem], by simp [go_sem]⟩
    | 6, _ => exact ⟨by simp [go_sem], by simp [go_sem]⟩
    | 7, _ => exact ⟨by simp [go_sem], by simp [go_sem]⟩
    | 8, _ => exact ⟨by simp [go_sem], by simp [go_sem]⟩
  go_wp2_with (refine wpList_store_mid rfl 64 (.tmp 7) (.tmp 13) rfl w1.heap.size 0 zero9.toArray rfl rfl th (by kernel_rfl) zero9_one ?_; obtain ⟨w2, hw2⟩ : ∃ w2, w2 = (w1.alloc (.cells #[.map none, .int .i64 0, .bool false, .int .i64 0, .bool false, .int .i64 0, .bool false, .int .i64 0, .bool false] 64)).setCells w1.heap.size 0 zero9.toArray.toList := ⟨_, rfl⟩; rw [← hw2]; have HW2 := Lib.hid hw2; clear hw2)
  have rg : w2.rangeAt w1.heap.size 0 zero9 := by rw [HW2.out]; exact World.rangeAt_setCells_same _ w1.heap.size 0 _ th
  have e : ∀ j v, zero9[j]? = some v → w2.cell? ⟨w1.heap.size, j, none⟩ = some v := fun j v hv => by
    have := rg j v hv
    simpa using this
  have d0 : w2.cell? ⟨w1.heap.size, 0, none⟩ = some (.map none) := e 0 _ rfl
  have d1 : w2.cell? ⟨w1.heap.size, 1, none⟩ = some (.int .i64 0) := e 1 _ rfl
  have d2 : w2.cell? ⟨w1.heap.size, 2, none⟩ = some (.bool false) := e 2 _ rfl
  have d3 : w2.cell? ⟨w1.heap.size, 3, none⟩ = some (.int .i64 0) := e 3 _ rfl
  have d4 : w2.cell? ⟨w1.heap.size, 4, none⟩ = some (.bool false) := e 4 _ rfl
  have d5 : w2.cell? ⟨w1.heap.size, 5, none⟩ = some (.int .i64 0) := e 5 _ rfl
  have d6 : w2.cell? ⟨w1.heap.size, 6, none⟩ = some (.bool false) := e 6 _ rfl
  have d7 : w2.cell? ⟨w1.heap.size, 7, none⟩ = some (.int .i64 0) := e 7 _ rfl
  have d8 : w2.cell? ⟨w1.heap.size, 8, none⟩ = some (.bool false) := e 8 _ rfl
  clear e rg th
  have NF := Lib.hid (show New w w2 by rw [HW2.out]; exact New.setCells (N1.out.alloc _) (by have := N1.out.size; omega) _ _)
  have hrun : ∀ q, (Instr.lookup 60 (.map none) (.agg #[.int .i64 0, .bool false, .int .i64 0, .bool false, .int .i64 0, .bool false, .int .i64 0, .bool false]) false).run Try.prog (w2.drewN q) = .ok (.int .i64 0) (w2.drewN q) := fun q => by
    have hl := Maps.look_nil (w := w2.drewN q) false chLaw Try.underlying60 (z := .int .i64 0) (by first | kernel_rfl | rfl | simp [go_sem]) HK.out
    exact hl
  have hlen : ∀ q ty, (Builtin.len_ #[60] ty #[.map none]).run Try.prog (w2.drewN q) = .ok (.int .i64 0) (w2.drewN q) := fun q ty => Maps.len_nil Try.underlying60 ty
  clear HK
  go_quiet (fail)
  go_wp2
  go_ret3
  exact ⟨rfl, NF.out.drewN _⟩

end Go.Proofs.Ytafiihhiipfejaa
