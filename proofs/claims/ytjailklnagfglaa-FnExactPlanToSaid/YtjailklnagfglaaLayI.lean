/- How many need plans of so many moves, the program's and the model's. -/
import Derived.Test.YtjailklnagfglaaCountI
import Derived.Test.YtjailklnagfglaaMono
import Derived.Deep.QuietTactic
import Derived.BigQuiet
namespace Go.Proofs.Ytjailklnagfglaa
open Go.RowKit Go.Maps

def layM (S H : List Int) (cl : Bool) : List Int × Bool := if countB S H cl = true then (layN (endN S H cl 3000), true) else ([], false)
theorem layM_yes {S H : List Int} {cl : Bool} (h : countB S H cl = true) : layM S H cl = (layN (endN S H cl 3000), true) := by simp [layM, h]
theorem layM_no {S H : List Int} {cl : Bool} (h : countB S H cl = false) : layM S H cl = ([], false) := by simp [layM, h]
theorem few_len {S H : List Int} {cl : Bool} {most : Nat} (h : fewB S H cl most = true) : (endN S H cl most).length ≤ most := of_decide_eq_true h
theorem goodfew {S H : List Int} {cl : Bool} {most : Nat} (h : (goodB S H && fewB S H cl most) = true) : Good S H ∧ (endN S H cl most).length ≤ most := by
  rw [Bool.and_eq_true] at h
  exact ⟨goodB_iff.1 h.1, few_len h.2⟩
theorem countB_good {S H : List Int} {cl : Bool} (h : countB S H cl = true) : Good S H ∧ (endN S H cl 3000).length ≤ 3000 := goodfew (most := 3000) h
theorem endN_found {S H : List Int} (cl : Bool) (most : Nat) (hg : Good S H) : Found S H (endN S H cl most) := found_seq cl hg (most + 1)
theorem layN_len {S H : List Int} {cl : Bool} {most : Nat} (h : (goodB S H && fewB S H cl most) = true) : (layN (endN S H cl most)).length ≤ most + 1 := by
  obtain ⟨hg, hl⟩ := goodfew h
  have hf := endN_found cl most hg
  rw [layN_length]
  have := hf.far_le ((endN S H cl most).length - 1) (by have := hf.pos; omega)
  unfold lastFar farAt
  omega
theorem layP_small {ok : Bool} {l : List Int} {n : Nat} (h : ok = true → l.length ≤ n) : (if ok = true then (l, true) else (([] : List Int), false)).1.length ≤ n := by
  cases ok
  · simp
  · simpa using h rfl
theorem layM_small (S H : List Int) (cl : Bool) : (layM S H cl).1.length ≤ 1048576 := Nat.le_trans (layP_small (ok := countB S H cl) (n := 3000 + 1) fun h => layN_len (most := 3000) h) (by omega)
/-- A slice of numbers of the call's own, and a bool. -/
def RetI (w : World) (l : List Int) (ok : Bool) (e : Ending) (w' : World) : Prop :=
  ∃ sa n sc, e = .returned (.tuple #[.slice sa n sc, .bool ok]) ∧ Own w' w.heap.size w'.heap.size sa n sc l ∧ New w w'

set_option maxRecDepth 100000 in
theorem iLayersOf_any (w : World) (aa ab : Option Addr) (n m ca cb : Nat) (S H : List Int) (cl : Bool) (h1 : Ints w aa n ca S) (h2 : Ints w ab m cb H) :
    Calls Try.prog 26 #[.agg #[.slice aa n ca, .slice ab m cb], .bool cl] w (RetI w (layM S H cl).1 (layM S H cl).2) := by
  obtain ⟨kf, KF⟩ := keyH_ex
  have HA := Lib.hid h1; clear h1
  have HB := Lib.hid h2; clear h2
  obtain ⟨z, hz⟩ : ∃ z, z = layM S H cl := ⟨_, rfl⟩
  rw [← hz]
  have HZ := Lib.hid hz; clear hz
  go_enter Try.func26, Try.ntmps26
  go_wp2_with fail
  refine (reachedFrom_any kf KF _ _ _ _ _ _ _ S H cl 3000 (HA.out.new (by repeat (first | with_reducible exact New.refl _ | with_reducible assumption | refine New.drewN ?_ _ | refine New.drew ?_ | refine New.alloc ?_ _ | refine New.setCell ?_ (by first | omega | (simp; omega) | (simp; done)) _ | (refine New.trans ?_ (by assumption))))) (HB.out.new (by repeat (first | with_reducible exact New.refl _ | with_reducible assumption | refine New.drewN ?_ _ | refine New.drew ?_ | refine New.alloc ?_ _ | refine New.setCell ?_ (by first | omega | (simp; omega) | (simp; done)) _ | (refine New.trans ?_ (by assumption))))) (by omega) (by omega)).mono ?_
  intro e w1 hp
  obtain ⟨n1, h⟩ := hp.parts
  clear hp
  have N1 := Lib.hid (show New w w1 from New.trans (by repeat (first | with_reducible exact New.refl _ | with_reducible assumption | refine New.drewN ?_ _ | refine New.drew ?_ | refine New.alloc ?_ _ | refine New.setCell ?_ (by first | omega | (simp; omega) | (simp; done)) _ | (refine New.trans ?_ (by assumption)))) n1)
  have Z0 := Lib.hid n1.size; clear n1
  rcases h with ⟨hc, E, hE, base, mb, vp, vl, P, St, rfl, fv⟩ | ⟨hc, rfl⟩
  · have ZE := Lib.hid (show z = (layN E, true) from by rw [HZ.out, layM_yes hc, hE])
    clear hE hc
    obtain ⟨ao, cap, hv⟩ := own_slice fv.places
    subst hv
    obtain ⟨al, capl, hvl, ol⟩ := Own.of_row fv.layers
    subst hvl
    have lo := fv.lo
    have OL := Lib.hid ol
    have LO := Lib.hid lo
    clear fv ol lo
    go_wp2
    go_ret2
    rw [ZE.out]
    exact ⟨al, _, capl, rfl, (OL.out.new (by repeat (first | with_reducible exact New.refl _ | with_reducible assumption | refine New.drewN ?_ _ | refine New.drew ?_ | refine New.alloc ?_ _ | refine New.setCell ?_ (by first | omega | (simp; omega) | (simp; done)) _ | (refine New.trans ?_ (by assumption))))).mono (by have := LO.out; have := Z0.out; simp at *; omega) (by simp), N1.out.alloc _⟩
  · have ZE := Lib.hid (show z = ([], false) from by rw [HZ.out, layM_no hc])
    clear hc
    unfold noneS
    go_wp2
    go_ret2
    rw [ZE.out]
    exact ⟨none, 0, 0, rfl, Own.nil _ _ _, N1.out.alloc _⟩

theorem zeros_own (w : World) (n : Nat) (hn : n ≤ 9223372036854775807) : Own (w.alloc (.cells (List.replicate n (Value.int .i64 0)).toArray 3)) w.heap.size (w.heap.size + 1) (some ⟨w.heap.size, 0, none⟩) n n (List.replicate n 0) :=
  ⟨by simp, Nat.le_refl _, hn, .inr ⟨w.heap.size, fun j => .int .i64 ((List.replicate n (0 : Int))[j]?.getD 0), rfl, Nat.le_refl _, by omega, ⟨_, heap_alloc_new _ _, by simp, fun i hi => by simp [hi]⟩, fun j _ => rfl⟩⟩

set_option maxRecDepth 100000 in
set_option maxHeartbeats 4000000 in
theorem sLayersOf_any (w : World) (aa ab : Option Addr) (n m ca cb : Nat) (S H : List Int) (cl : Bool) (h1 : Ints w aa n ca S) (h2 : Ints w ab m cb H) :
    Calls Try.prog 25 #[.agg #[.slice aa n ca, .slice ab m cb], .bool cl] w (RetI w (layM S H cl).1 (layM S H cl).2) := by
  have HA := Lib.hid h1; clear h1
  have HB := Lib.hid h2; clear h2
  obtain ⟨z, hz⟩ : ∃ z, z = layM S H cl := ⟨_, rfl⟩
  rw [← hz]
  have HZ := Lib.hid hz; clear hz
  go_enter Try.func25, Try.ntmps25
  go_wp2_with fail
  refine (plAsked_any _ _ _ _ _ _ _ S H cl (HA.out.new (by repeat (first | with_reducible exact New.refl _ | with_reducible assumption | refine New.drewN ?_ _ | refine New.drew ?_ | refine New.alloc ?_ _ | refine New.setCell ?_ (by first | omega | (simp; omega) | (simp; done)) _ | (refine New.trans ?_ (by assumption))))) (HB.out.new (by repeat (first | with_reducible exact New.refl _ | with_reducible assumption | refine New.drewN ?_ _ | refine New.drew ?_ | refine New.alloc ?_ _ | refine New.setCell ?_ (by first | omega | (simp; omega) | (simp; done)) _ | (refine New.trans ?_ (by assumption)))))).mono ?_
  rintro e w1 ⟨n1, h⟩
  have N1 := Lib.hid (show New w w1 from New.trans (by repeat (first | with_reducible exact New.refl _ | with_reducible assumption | refine New.drewN ?_ _ | refine New.drew ?_ | refine New.alloc ?_ _ | refine New.setCell ?_ (by first | omega | (simp; omega) | (simp; done)) _ | (refine New.trans ?_ (by assumption)))) n1); clear n1
  rcases h with ⟨hc, E, hE, R, base, O, va, vf, vm, vr, vo, P, Q, rfl, rc⟩ | ⟨hc, p, rfl⟩
  · obtain ⟨hG, hl⟩ := countB_good hc
    have hfd := endN_found cl 3000 hG
    have hlast := @far_last S H cl 3000
    have ZE := Lib.hid (show z = (layN E, true) from by rw [HZ.out, layM_yes hc, hE])
    rw [← hE] at hl hfd hlast
    have hpos := hfd.pos
    have fb := hfd.far_le (E.length - 1) (by omega)
    have HLA := Lib.hid (show ∀ j, j < E.length → farAt E j ≤ lastFar E from fun j hj => hlast hj)
    clear hE hc hlast
    obtain ⟨gr, crp, er, _, _, _, xr⟩ := own_read (rc.box.own (r3 vr E) (by simp)) hpos
    have c3 : w1.cell? ⟨R, 3, none⟩ = some vr := rc.box.cell (r3 vr E) (by simp)
    have er' : vr = .slice (some ⟨gr, 0, none⟩) E.length crp := er
    rw [er'] at c3
    have XR := Lib.hid (show ∀ j, j < E.length → w1.cell? ⟨gr, j, none⟩ = some (.int .i64 (farAt E j : Int)) from fun j hj => (xr j _ (by show j < E.length * 1; omega) (by show (farL E)[j]? = _; unfold farL farAt; rw [List.getElem?_map, List.getElem?_eq_getElem hj]; rfl)).1)
    obtain ⟨T, hT⟩ : ∃ T, T = E.length := ⟨_, rfl⟩
    obtain ⟨f9, hf9⟩ : ∃ f9, f9 = lastFar E := ⟨_, rfl⟩
    have x9 : w1.cell? ⟨gr, T - 1, none⟩ = some (.int .i64 (f9 : Int)) := by rw [hT, hf9]; exact XR.out _ (by omega)
    rw [← hT] at c3 hl hpos
    have HT := Lib.hid hT
    have HF := Lib.hid hf9
    have f9b : f9 ≤ 3000 := by rw [hf9]; unfold lastFar farAt; omega
    clear rc er er' xr hfd fb hT hf9 hG
    have wT : IntKind.i64.wrap ((T : Int) - 1) = ((T - 1 : Nat) : Int) := by rw [show (T : Int) - 1 = ((T - 1 : Nat) : Int) by omega]; exact IntWalk.i64_in _ (by omega)
    have wF : IntKind.i64.wrap ((f9 : Int) + 1) = (f9 : Int) + 1 := IntWalk.i64_in _ (by omega)
    have tI : ((T - 1 : Nat) : Int) < (T : Int) := by omega
    have t0 : (0 : Int) ≤ ((T - 1 : Nat) : Int) := by omega
    have hmk := run_make_row' (P := Try.prog) 22 3 (.int .i64 0) 8 Try.underlying22 Try.infoInt rfl .i64 .i64 (f9 + 1) (by omega) (by omega)
    simp only [madeCells_eq] at hmk
    push_cast at hmk
    go_upto_region 4 with fail
    go_still_tail 13, (by kernel_rfl)
    change wpList _ _ _ _ _ w1.drew
    obtain ⟨v1, hv1⟩ : ∃ v : World, v = w1.drew := ⟨_, rfl⟩
    rw [← hv1]
    have nv1 : New w1 v1 := by rw [hv1]; exact (New.refl _).drew
    have c3' := nv1.cell c3
    have NV1 := Lib.hid nv1
    clear hv1 nv1 c3 x9 wT tI t0
    go_upto_region 5 with fail
    obtain ⟨v2, hv2⟩ : ∃ v : World, v = v1.alloc (.cells (Array.replicate (f9 + 1) (Value.int .i64 0)) 3) := ⟨_, rfl⟩
    rw [← hv2]
    rw [← List.toArray_replicate] at hv2
    have zo := zeros_own v1 (f9 + 1) (by omega)
    rw [← hv2] at zo
    have nv2 : New v1 v2 := by rw [hv2]; exact (New.refl _).alloc _
    have ZO := Lib.hid zo
    have c4 := nv2.cell c3'
    have NV2 := Lib.hid nv2
    have z2 : v2.heap.size = v1.heap.size + 1 := by rw [hv2]; simp
    have zR : R < v1.heap.size := World.block_lt_of_cell? _ _ c3'
    have zG : gr < v1.heap.size := by have q := NV1.out.cell (XR.out 0 (by have := HT.out; omega)); exact World.block_lt_of_cell? _ _ q
    clear hv2 nv2 zo c3' hmk wF
    go_wp2
    go_loopw [38] (fun i wr => ∃ k : Nat, i = .int .i64 k ∧ k ≤ T ∧ Chg (fun b => b = v1.heap.size) v2 wr ∧ Own wr v1.heap.size (v1.heap.size + 1) (some ⟨v1.heap.size, 0, none⟩) (f9 + 1) (f9 + 1) (layK E (f9 + 1) k)) (fun i _ => T - (intOf i).toNat)
    case atStart => exact ⟨0, rfl, Nat.zero_le _, Chg.refl _ _, by rw [layK_zero]; exact ZO.out⟩
    case round =>
      obtain ⟨k, rfl, hk, hch, how⟩ := hrel
      have CH := Lib.hid hch; clear hch
      have OW := Lib.hid how; clear how
      have zw := CH.out.size
      by_cases hlt : k < T
      · have xk := CH.out.cell ((NV1.out.trans NV2.out).cell (XR.out k (by have := HT.out; omega))) (show ¬ gr = v1.heap.size by omega)
        obtain ⟨f, hf⟩ : ∃ f, f = farAt E k := ⟨_, rfl⟩
        have fle : f < f9 + 1 := by rw [hf, HF.out]; have := HLA.out k (by have := HT.out; omega); omega
        have hset := layK_next E (f9 + 1) k (by rw [← hf]; exact fle)
        rw [← hf] at xk hset
        obtain ⟨b, eb, _, _, _, hrow⟩ := OW.out.row fle
        cases eb
        obtain ⟨o1, o2⟩ := hrow f fle
        rw [layK_get E (f9 + 1) k fle] at o1
        have cle := cntTo_le (farAt E) f k
        obtain ⟨c, hc⟩ : ∃ c, c = cntTo (farAt E) f k := ⟨_, rfl⟩
        rw [← hc] at o1 hset cle
        have HS := Lib.hid hset
        have wc : IntKind.i64.wrap ((c : Int) + 1) = (c : Int) + 1 := IntWalk.i64_in _ (by omega)
        have fI : (f : Int) < (f9 : Int) + 1 := by omega
        clear hf hset hc hrow
        go_wp2
        go_roundw
        case rel =>
          refine ⟨k + 1, by go_num, by omega, CH.out.trans (Chg.setCell (p := ⟨v1.heap.size, f, none⟩) _), ?_⟩
          rw [← HS.out]
          exact OW.out.store fle _
        case measure => simp [intOf]; omega
      · obtain rfl : k = T := by omega
        have HL := Lib.hid (show layK E (f9 + 1) k = layN E from by rw [HF.out, HT.out]; rfl)
        have ow := OW.out
        rw [HL.out] at ow
        have OW2 := Lib.hid (ow.mono (lo' := w.heap.size) (hi' := wr.heap.size) (by have := (N1.out.trans NV1.out).size; omega) (by omega))
        have NW := Lib.hid (Chg.new ((N1.out.trans NV1.out).trans NV2.out) CH.out (fun i hi => by have := (N1.out.trans NV1.out).size; omega))
        clear ow
        go_wp2
        go_ret2
        rw [ZE.out]
        exact ⟨_, _, _, rfl, OW2.out, NW.out⟩
  · have ZE := Lib.hid (show z = ([], false) from by rw [HZ.out, layM_no hc])
    clear hc
    go_wp2
    go_ret2
    rw [ZE.out]
    exact ⟨none, 0, 0, rfl, Own.nil _ _ _, N1.out⟩
end Go.Proofs.Ytjailklnagfglaa
