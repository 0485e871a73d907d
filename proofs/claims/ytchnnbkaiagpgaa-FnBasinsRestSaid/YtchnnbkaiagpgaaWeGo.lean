/- The model's run of a row through all ticks. -/
import Derived.Test.YtchnnbkaiagpgaaWeT
import Derived.Test.YtchnnbkaiagpgaaGrowBox
import Derived.Test.YtchnnbkaiagpgaaGrowSS
import Derived.Test.YtchnnbkaiagpgaaRowSt
import Derived.Deep.DeepCutAuto
import Derived.Deep.DeepMust
namespace Go.Proofs.Ytchnnbkaiagpgaa
open Go.RowKit

def goTy (o : Nat) : TypeId := if o = 0 then 3 else if o = 2 then 25 else 24
def goX (l : List (Int × Int × Int)) (xs : List Int) (k : Nat) (hs hr : Nat → Option Addr × Nat × Nat) (o : Nat) : List Value :=
  if o = 0 then (givesTo l xs k).map (Value.int .i64) else if o = 2 then (List.range k).map (fun j => headV (hs j)) else (List.range k).map (fun j => headV (hr j))
theorem heads_succ (hd : Nat → Option Addr × Nat × Nat) (k : Nat) (x : Option Addr × Nat × Nat) : (List.range (k + 1)).map (fun j => headV (if j = k then x else hd j)) = (List.range k).map (fun j => headV (hd j)) ++ [headV x] := by
  rw [List.range_succ, List.map_append]
  congr 1
  · refine List.map_congr_left fun j hj => ?_
    have := List.mem_range.1 hj
    rw [if_neg (by omega)]
  · simp
/-- Slices of slices of basins, read. -/
def BasSS (w : World) (ao : Option Addr) (n cap : Nat) (L : List (List (Int × Int × Int))) : Prop :=
  n = L.length ∧ n ≤ cap ∧ n ≤ 9223372036854775807 ∧ (∀ j, j < n → ∃ b o a m c, ao = some ⟨b, o, none⟩ ∧ w.cell? ⟨b, o + j, none⟩ = some (.slice a m c) ∧ Basins w a m c (L[j]?.getD [])) ∧ (ao = none → cap = 0)
theorem BasSS.new {w w' : World} {ao : Option Addr} {n cap : Nat} {L : List (List (Int × Int × Int))} (h : BasSS w ao n cap L) (k : New w w') : BasSS w' ao n cap L := by
  obtain ⟨h1, h2, h3, h4, h5⟩ := h
  refine ⟨h1, h2, h3, fun j hj => ?_, h5⟩
  obtain ⟨b, o, a, m, c, e, hc, hi⟩ := h4 j hj
  exact ⟨b, o, a, m, c, e, k.cell hc, hi.new k⟩
theorem row_heads {w : World} {base k cap : Nat} {e : TypeId} {ao : Option Addr} {hd : Nat → Option Addr × Nat × Nat} (h : w.ownsRow base e 1 (.slice ao k cap) k ((List.range k).map fun j => headV (hd j))) :
    k ≤ cap ∧ k ≤ 9223372036854775807 ∧ (∀ j, j < k → ∃ b, ao = some ⟨b, 0, none⟩ ∧ w.cell? ⟨b, 0 + j, none⟩ = some (headV (hd j))) ∧ (ao = none → cap = 0) := by
  rcases h.2 with ⟨e1, rfl⟩ | ⟨g, cp, cur, e1, hb, hh, hn, hm, hs, ht⟩
  · cases e1
    exact ⟨Nat.le_refl _, by omega, fun j hj => absurd hj (by omega), fun _ => rfl⟩
  · cases e1
    refine ⟨hn, by unfold maxLen at hm; omega, fun j hj => ⟨g, rfl, ?_⟩, fun e => by cases e⟩
    rw [cell_of_row w g (0 + j) cur e (0, 0) hh]
    have q : (cur.toList.take (k * 1))[j]? = ((List.range k).map fun j => headV (hd j))[j]? := by rw [ht]
    rw [List.getElem?_take, if_pos (by omega)] at q
    rw [Nat.zero_add]
    simpa [hj] using q
theorem IntSS.of_heads {w : World} {base k cap : Nat} {e : TypeId} {ao : Option Addr} {hd : Nat → Option Addr × Nat × Nat} {L : List (List Int)} (h : w.ownsRow base e 1 (.slice ao k cap) k ((List.range k).map fun j => headV (hd j))) (hl : L.length = k)
    (hr : ∀ j, j < k → Ints w (hd j).1 (hd j).2.1 (hd j).2.2 (L[j]?.getD [])) : IntSS w ao k cap L := by
  obtain ⟨h1, h2, h3, h4⟩ := row_heads h
  refine ⟨hl.symm, h1, h2, fun j hj => ?_, h4⟩
  obtain ⟨b, e1, e2⟩ := h3 j hj
  exact ⟨b, 0, _, _, _, e1, e2, hr j hj⟩
theorem BasSS.of_heads {w : World} {base k cap : Nat} {e : TypeId} {ao : Option Addr} {hd : Nat → Option Addr × Nat × Nat} {L : List (List (Int × Int × Int))} (h : w.ownsRow base e 1 (.slice ao k cap) k ((List.range k).map fun j => headV (hd j))) (hl : L.length = k)
    (hr : ∀ j, j < k → Basins w (hd j).1 (hd j).2.1 (hd j).2.2 (L[j]?.getD [])) : BasSS w ao k cap L := by
  obtain ⟨h1, h2, h3, h4⟩ := row_heads h
  refine ⟨hl.symm, h1, h2, fun j hj => ?_, h4⟩
  obtain ⟨b, e1, e2⟩ := h3 j hj
  exact ⟨b, 0, _, _, _, e1, e2, hr j hj⟩
theorem res_go {tmps : Array Value} {W : World} {R : Nat} {cs : List Value} (ht : tmps[4]?.getD undef = .pointer (some ⟨R, 0, none⟩)) (h : WB W R cs 80) (hl : cs.length = 4) : (results Try.f52 tmps).run Try.prog W = .ok (.agg cs.toArray) W := by
  have hr := run_loadVar_mid (P := Try.prog) W R 0 80 cs _ (h.range 0 fun j v hv => by rw [Nat.zero_add]; exact hv) Try.underlying80 rfl ((show (Try.prog.info? 80).map (·.size) = some 4 by kernel_rfl).trans (by rw [hl]))
  simp [results, Try.results52, asAddr, ht, hr]
theorem Try.infoIntsG : (Try.prog.info? 25).map (fun i => (i.zero, i.size, i.bytes)) = some (some (.slice none 0 0), 1, 24) := by kernel_rfl
theorem Try.infoBasG : (Try.prog.info? 24).map (fun i => (i.zero, i.size, i.bytes)) = some (some (.slice none 0 0), 1, 24) := by kernel_rfl

set_option maxRecDepth 100000 in
set_option maxHeartbeats 4000000 in
theorem weGo_far (w : World) (aa : Option Addr) (n ca : Nat) (l : List (Int × Int × Int)) (ab : Option Addr) (m cb : Nat) (xs : List Int) (ha : Basins w aa n ca l) (hx : Ints w ab m cb xs) (hl : RowOk l) (hf : FlowOk xs) :
    Calls Try.prog 52 #[.slice aa n ca, .slice ab m cb] w fun e w' => ∃ ga gc ea en ec sa sc ra rc, e = .returned (.agg #[.slice ga m gc, .slice ea en ec, .slice sa m sc, .slice ra m rc]) ∧ Own w' w.heap.size w'.heap.size ga m gc (givesTo l xs m) ∧ Basins w' ea en ec (rowK l xs m) ∧ (∃ hs : Nat → Option Addr × Nat × Nat, ∀ w'' : World, (∀ b, w.heap.size < b → b < w'.heap.size → w''.heap[b]? = w'.heap[b]?) → IntSS w'' sa m sc (spillsTo l xs m) ∧ ∀ j, j < m → ∃ b, sa = some ⟨b, 0, none⟩ ∧ w''.cell? ⟨b, 0 + j, none⟩ = some (headV (hs j)) ∧ Ints w'' (hs j).1 (hs j).2.1 (hs j).2.2 (spillsAt l xs j)) ∧ BasSS w' ra m rc (rowsTo l xs m) ∧ New w w' := by
  have HN := Lib.hid ha.1
  have HM := Lib.hid hx.1
  have n6 : n ≤ 6 := by have := ha.1; have := hl.2.1; omega
  have n1 : 1 ≤ n := by have := ha.1; have := hl.1; omega
  have m60 : m ≤ 60 := by have := hx.1; have := hf.1; omega
  obtain ⟨bq, oq, rfl, _⟩ := ha.2.2.2.1 0 (by omega)
  have HA := Lib.hid ha; clear ha
  have HX := Lib.hid hx; clear hx
  have HR := Lib.hid hl; clear hl
  have HF := Lib.hid hf; clear hf
  obtain ⟨i0, hi, hz0, hz1, hz2⟩ := info_parts Try.infoInt
  obtain ⟨i1, hj, hy0, hy1, hy2⟩ := info_parts Try.infoBas
  obtain ⟨i2, hk, hx0, hx1, hx2⟩ := info_parts Try.infoIntsG
  obtain ⟨i3, hh, hv0, hv1, hv2⟩ := info_parts Try.infoBasG
  obtain ⟨w0, hw0⟩ : ∃ w0, w0 = ((w.alloc (.cells #[.slice none 0 0, .slice none 0 0, .slice none 0 0, .slice none 0 0] 80)).alloc (.cells #[] 48)) := ⟨_, rfl⟩
  have k0 : New w w0 := by rw [hw0]; exact (by repeat (first | with_reducible exact New.refl _ | with_reducible assumption | refine New.drewN ?_ _ | refine New.drew ?_ | refine New.alloc ?_ _ | refine New.setCell ?_ (by first | omega | (simp; omega) | (simp; done)) _ | (refine New.trans ?_ (by assumption))))
  have c0 : WB w0 w.heap.size [.slice none 0 0, .slice none 0 0, .slice none 0 0, .slice none 0 0] 80 := by rw [hw0]; exact WB.new (heap_alloc_new _ _) (by repeat (first | with_reducible exact New.refl _ | with_reducible assumption | refine New.drewN ?_ _ | refine New.drew ?_ | refine New.alloc ?_ _ | refine New.setCell ?_ (by first | omega | (simp; omega) | (simp; done)) _ | (refine New.trans ?_ (by assumption))))
  have o0 : w0.ownsRow (w.heap.size + 1) 48 3 (.slice (some ⟨w.heap.size + 1, 0, none⟩) 0 0) 0 [] := by
    rw [hw0]
    exact ⟨rfl, .inr ⟨w.heap.size + 1, 0, #[], rfl, Nat.le_refl _, heap_alloc_at (by simp), Nat.le_refl _, by unfold maxLen; omega, rfl, rfl⟩⟩
  have z0 : w0.heap.size = w.heap.size + 1 + 1 := by rw [hw0]; simp
  have K0 := Lib.hid k0; clear k0
  have C0 := Lib.hid c0; clear c0
  have O0 := Lib.hid o0; clear o0
  have HW0 := Lib.hid hw0; clear hw0
  go_enter Try.func52, Try.ntmps52
  go_upto_region 1 with fail
  go_upto_region 2 with (at_builtin; (rw [← HW0.out]); go_must (refine wpList_append_lies _ (by rfl) (.tmp 11) (.tmp 12) 24 (by rfl) (w.heap.size + 1) 48 i1 _ 3 24 Try.underlying24 hj hy0 hy1 hy2 rfl (by decide) _ 0 _ (by rfl) O0.out ⟨bq, oq, none⟩ n ca (flatBasin l) (by rfl) (by rw [flatBasin_length, ← HN.out]) ((HA.out.new K0.out).source) (flatBasin_one l) (by omega) (by unfold maxLen; omega) (by omega) (by omega) _ rfl ?_); intro g4 cap4 w4 ho hg hb' hlt'; have O4 := Lib.hid (show w4.ownsRow (w.heap.size + 1) 48 3 (.slice (some ⟨g4, 0, none⟩) n cap4) n (flatBasin l) by simpa using ho); have N4 := Lib.hid (New.grown (w0 := w) K0.out O0.out (by omega) hg); have C4 := Lib.hid (C0.out.of (hg.block w.heap.size (by omega) (fun e => by simp [Value.ownBlock] at e))); clear ho hg hb' hlt')
  obtain ⟨w5, hw5⟩ : ∃ w5, w5 = w4.alloc (.cells #[.slice none 0 0, .slice (some ⟨g4, 0, none⟩) n cap4, .slice none 0 0, .slice none 0 0] 80) := ⟨_, rfl⟩
  rw [← hw5]
  have n5 : New w4 w5 := by rw [hw5]; exact (by repeat (first | with_reducible exact New.refl _ | with_reducible assumption | refine New.drewN ?_ _ | refine New.drew ?_ | refine New.alloc ?_ _ | refine New.setCell ?_ (by first | omega | (simp; omega) | (simp; done)) _ | (refine New.trans ?_ (by assumption))))
  have b5 : WB w5 w4.heap.size [.slice none 0 0, .slice (some ⟨g4, 0, none⟩) n cap4, .slice none 0 0, .slice none 0 0] 80 := by rw [hw5]; exact heap_alloc_new _ _
  obtain ⟨v0, hv0⟩ : ∃ v0 : Nat → Value, v0 = upd (fun _ => .slice none 0 0) 1 (.slice (some ⟨g4, 0, none⟩) n cap4) := ⟨_, rfl⟩
  have nil0 : ∀ o, o ≠ 1 → v0 o = .slice none 0 0 := fun o ho => by rw [hv0]; simp [upd, ho]
  have GB0 := Lib.hid (show GrowBox w w5 w.heap.size w4.heap.size 80 [.slice none 0 0, .slice none 0 0, .slice none 0 0, .slice none 0 0] v0 goTy (fun _ => 0) (goX l xs 0 (fun _ => (none, 0, 0)) (fun _ => (none, 0, 0))) from by
    refine ⟨N4.out.trans n5, C4.out.new n5, b5.eqv (by rw [hv0]; rfl), fun o h1 h2 => ?_, fun o o' h1 h2 h3 h4 hne g e => ?_, ⟨Nat.le_refl _, by have := C4.out.lt; omega⟩⟩
    · rw [nil0 o h1, show goX l xs 0 (fun _ => (none, 0, 0)) (fun _ => (none, 0, 0)) o = [] by unfold goX givesTo; simp]
      exact World.ownsRow_nil _ _ _ _
    · rw [nil0 o h1] at e
      simp [Value.ownBlock] at e)
  have CE0 := Lib.hid (show Cold w.heap.size w4.heap.size v0 w5 (fun w' => Basins w' (some ⟨g4, 0, none⟩) n cap4 (rowK l xs 0)) from fun w' k => by
    obtain ⟨ao, cp, e, ob⟩ := OwnBasin.of_row O4.out
    cases e
    refine ((ob.new n5).turned fun b hn hbk hlt => k b hlt fun hh => ?_).reads
    have := (ob.bounds hn hbk).2
    have bd := ob.bounds hn hbk
    rcases hh with (hh | hh) | ⟨o, h1, h2, hh⟩
    · omega
    · omega
    · rw [nil0 o h1] at hh
      simp [Value.ownBlock] at hh)
  have E1 := Lib.hid (show v0 1 = .slice (some ⟨g4, 0, none⟩) n cap4 by rw [hv0]; rfl)
  clear hw5 n5 b5 hv0 nil0
  go_wp2_with fail
  go_loopw [17] (fun i wr => ∃ (k : Nat) (v : Nat → Value) (hs hr : Nat → Option Addr × Nat × Nat) (ea : Option Addr) (en ec : Nat), k ≤ m ∧ i = .int .i64 k ∧ v 1 = .slice ea en ec ∧
    GrowBox w wr w.heap.size w4.heap.size 80 [.slice none 0 0, .slice none 0 0, .slice none 0 0, .slice none 0 0] v goTy (fun _ => k) (goX l xs k hs hr) ∧ Cold w.heap.size w4.heap.size v wr (fun w' => Basins w' ea en ec (rowK l xs k)) ∧
    (∀ j, j < k → Cold w.heap.size w4.heap.size v wr (fun w' => Ints w' (hs j).1 (hs j).2.1 (hs j).2.2 (spillsAt l xs j))) ∧ (∀ j, j < k → Cold w.heap.size w4.heap.size v wr (fun w' => Basins w' (hr j).1 (hr j).2.1 (hr j).2.2 (rowK l xs (j + 1))))) (fun i _ => m - (intOf i).toNat)
  case atStart => exact ⟨0, v0, _, _, _, _, _, Nat.zero_le _, rfl, E1.out, GB0.out, CE0.out, fun j hj => absurd hj (by omega), fun j hj => absurd hj (by omega)⟩
  case round =>
    obtain ⟨k, v, hs, hr, ea, en, ec, hkm, rfl, hv1, hgb, hce, hcs, hcr⟩ := hrel
    have GB := Lib.hid hgb; clear hgb
    have CE := Lib.hid hce; clear hce
    have CS := Lib.hid hcs; clear hcs
    have CR := Lib.hid hcr; clear hcr GB0 CE0 E1
    have c1 : wr.cell? ⟨w4.heap.size, 1, none⟩ = some (.slice ea en ec) := by rw [← hv1]; exact GB.out.cell 1 (by omega)
    have hv1' := hv1
    clear hv1
    by_cases hlt : k < m
    · obtain ⟨b, o, rfl, hcl, _⟩ := (HX.out.new GB.out.new).at hlt
      have KX := Lib.hid (show k < xs.length by have := HM.out; omega)
      have xb := HF.out.2 k KX.out
      have RK := Lib.hid (rowK_ok HR.out HF.out k (by have := KX.out; omega))
      have gb := Lib.hid (giveK_bd HR.out HF.out k KX.out)
      go_wp2_with fail
      refine (weTick_any wr ea en ec (rowK l xs k) (xs[k]?.getD 0) CE.out.out RK.out xb.1 xb.2).mono ?_
      rintro e w6 ⟨oa, on, oc, sa, sn, sc, rfl, o1, o2, _, n6'⟩
      have GB6 := Lib.hid (GB.out.kept n6')
      have CE6 := Lib.hid (show Cold w.heap.size w4.heap.size v w6 (fun w' => Basins w' oa on oc (rowK l xs (k + 1))) from GB.out.cold_bas o1)
      have e2 : spsK (rowK l xs k) (xs[k]?.getD 0) (rowK l xs k).length = spillsAt l xs k := by unfold spillsAt; rw [rowK_length]
      rw [e2] at o2
      have CS6 := Lib.hid (show Cold w.heap.size w4.heap.size v w6 (fun w' => Ints w' sa sn sc (spillsAt l xs k)) from GB.out.cold_ints o2)
      have CSA := Lib.hid (fun j hj => (CS.out j hj).kept n6')
      have CRA := Lib.hid (fun j hj => (CR.out j hj).kept n6')
      have c1' := n6'.cell c1
      have f1' := GB6.out.box.frozen 1
      clear o1 o2 n6' e2 hcl c1 CE CS CR hv1'
      go_upto_region 7 with fail
      obtain ⟨w7, hw7⟩ : ∃ w7, w7 = w6.setCell ⟨w4.heap.size, 1, none⟩ (.slice oa on oc) := ⟨_, rfl⟩
      obtain ⟨v7, hv7⟩ : ∃ v7, v7 = upd v 1 (.slice oa on oc) := ⟨_, rfl⟩
      rw [← hw7]
      have GB7 := Lib.hid (show GrowBox w w7 _ _ _ _ v7 _ _ _ by rw [hw7, hv7]; exact GB6.out.put1 (.slice oa on oc))
      have CE7 := Lib.hid (show Cold w.heap.size w4.heap.size v7 w7 _ by rw [hw7, hv7]; exact CE6.out.put1 (.slice oa on oc))
      have CS7 := Lib.hid (show Cold w.heap.size w4.heap.size v7 w7 _ by rw [hw7, hv7]; exact CS6.out.put1 (.slice oa on oc))
      have CSA7 := Lib.hid (show ∀ j, j < k → Cold w.heap.size w4.heap.size v7 w7 (fun w' => Ints w' (hs j).1 (hs j).2.1 (hs j).2.2 (spillsAt l xs j)) by rw [hw7, hv7]; exact fun j hj => (CSA.out j hj).put1 (.slice oa on oc))
      have CRA7 := Lib.hid (show ∀ j, j < k → Cold w.heap.size w4.heap.size v7 w7 (fun w' => Basins w' (hr j).1 (hr j).2.1 (hr j).2.2 (rowK l xs (j + 1))) by rw [hw7, hv7]; exact fun j hj => (CRA.out j hj).put1 (.slice oa on oc))
      have V7 := Lib.hid (show v7 1 = .slice oa on oc by rw [hv7]; rfl)
      clear hw7 hv7 c1' f1' GB6 CE6 CS6 CSA CRA GB
      have c8 := GB7.out.cell 0 (by omega)
      have f8 := GB7.out.box.frozen 0
      have z8 := GB7.out.box.lt
      go_upto_region 8 with (at_builtin; go_must (refine wpList_append_lies _ (by rfl) (.tmp 32) (.tmp 34) 25 (by rfl) (w4.heap.size + 1) 3 i0 (.int .i64 0) 1 8 Try.underlying25 hi hz0 hz1 hz2 rfl (by decide) (v7 0) k _ (by rfl) ((GB7.out.kept (by repeat (first | with_reducible exact New.refl _ | with_reducible assumption | refine New.drewN ?_ _ | refine New.drew ?_ | refine New.alloc ?_ _ | refine New.setCell ?_ (by first | omega | (simp; omega) | (simp; done)) _ | (refine New.trans ?_ (by assumption))))).own 0 (by omega) (by omega)) _ _ _ [.int .i64 (giveL (rowK l xs k) (xs[k]?.getD 0))] (by rfl) (by rfl) (World.news_of_block (cs := #[.int .i64 (giveL (rowK l xs k) (xs[k]?.getD 0))]) (t := 3) (fr := (0, 0)) (heap_alloc_at (by simp))) (by simp [Value.oneCell']) (by omega) (by unfold maxLen; omega) (by omega) (by simp; omega) _ rfl ?_); go_loud (intro g cap wq ho hg hb' hlt'; have GX := GrowBox.grow (o := 0) (GB7.out.kept (by repeat (first | with_reducible exact New.refl _ | with_reducible assumption | refine New.drewN ?_ _ | refine New.drew ?_ | refine New.alloc ?_ _ | refine New.setCell ?_ (by first | omega | (simp; omega) | (simp; done)) _ | (refine New.trans ?_ (by assumption))))) (by omega) (by omega) ho hg hb'; have GC := fun (R : World → Prop) (c : Cold w.heap.size w4.heap.size v7 w7 R) => GrowBox.cold (cap := cap) (n' := k + 1) (g := g) (o := 0) (GB7.out.kept (by repeat (first | with_reducible exact New.refl _ | with_reducible assumption | refine New.drewN ?_ _ | refine New.drew ?_ | refine New.alloc ?_ _ | refine New.setCell ?_ (by first | omega | (simp; omega) | (simp; done)) _ | (refine New.trans ?_ (by assumption))))) (by omega) (by omega) hg hb' (c.kept (by repeat (first | with_reducible exact New.refl _ | with_reducible assumption | refine New.drewN ?_ _ | refine New.drew ?_ | refine New.alloc ?_ _ | refine New.setCell ?_ (by first | omega | (simp; omega) | (simp; done)) _ | (refine New.trans ?_ (by assumption))))); have c8' : wq.cell? ⟨w4.heap.size, 0, none⟩ = some (v7 0) := hg.cell (World.cell_kept c8) (fun e => by have := (((GB7.out.kept (by repeat (first | with_reducible exact New.refl _ | with_reducible assumption | refine New.drewN ?_ _ | refine New.drew ?_ | refine New.alloc ?_ _ | refine New.setCell ?_ (by first | omega | (simp; omega) | (simp; done)) _ | (refine New.trans ?_ (by assumption))))).own 0 (by omega) (by omega)).lt w4.heap.size e.symm).1; omega); have f8' : wq.frozen? ⟨w4.heap.size, 0, none⟩ = false := (hg.frozen_far ⟨w4.heap.size, 0, none⟩ (by simp; omega) (fun e => by have := (((GB7.out.kept (by repeat (first | with_reducible exact New.refl _ | with_reducible assumption | refine New.drewN ?_ _ | refine New.drew ?_ | refine New.alloc ?_ _ | refine New.setCell ?_ (by first | omega | (simp; omega) | (simp; done)) _ | (refine New.trans ?_ (by assumption))))).own 0 (by omega) (by omega)).lt w4.heap.size e.symm).1; omega)).trans (New.frz (w := w7) (by repeat (first | with_reducible exact New.refl _ | with_reducible assumption | refine New.drewN ?_ _ | refine New.drew ?_ | refine New.alloc ?_ _ | refine New.setCell ?_ (by first | omega | (simp; omega) | (simp; done)) _ | (refine New.trans ?_ (by assumption)))) c8 f8); have KX8 := Lib.hid GX; have KC8 := Lib.hid GC; clear ho hg hb' hlt' GX GC))
      obtain ⟨w8, hw8⟩ : ∃ w8, w8 = wq.setCell ⟨w4.heap.size, 0, none⟩ (.slice (some ⟨g, 0, none⟩) (k + 1) cap) := ⟨_, rfl⟩
      obtain ⟨v8, hv8⟩ : ∃ v8, v8 = upd v7 0 (.slice (some ⟨g, 0, none⟩) (k + 1) cap) := ⟨_, rfl⟩
      rw [← hw8]
      have GB8 := Lib.hid (show GrowBox w w8 _ _ _ _ v8 _ _ _ by rw [hw8, hv8]; exact KX8.out)
      have KD := Lib.hid (show ∀ R : World → Prop, Cold w.heap.size w4.heap.size v7 w7 R → Cold w.heap.size w4.heap.size v8 w8 R by rw [hw8, hv8]; exact KC8.out)
      have CE8 := Lib.hid (KD.out _ CE7.out)
      have CS8 := Lib.hid (KD.out _ CS7.out)
      have CSA8 := Lib.hid (fun j hj => KD.out _ (CSA7.out j hj))
      have CRA8 := Lib.hid (fun j hj => KD.out _ (CRA7.out j hj))
      have V8 := Lib.hid (show v8 1 = .slice oa on oc by rw [hv8]; exact V7.out)
      clear hw8 hv8 KX8 KC8 KD c8 f8 c8' f8' z8 GB7 CE7 CS7 CSA7 CRA7 V7
      have c9 := GB8.out.cell 2 (by omega)
      have f9 := GB8.out.box.frozen 2
      have z9 := GB8.out.box.lt
      go_upto_region 9 with (at_builtin; go_must (refine wpList_append_lies _ (by rfl) (.tmp 38) (.tmp 40) 77 (by rfl) (w4.heap.size + 1) 25 i2 (.slice none 0 0) 1 24 Try.underlying77 hk hx0 hx1 hx2 rfl (by decide) (v8 2) k _ (by rfl) ((GB8.out.kept (by repeat (first | with_reducible exact New.refl _ | with_reducible assumption | refine New.drewN ?_ _ | refine New.drew ?_ | refine New.alloc ?_ _ | refine New.setCell ?_ (by first | omega | (simp; omega) | (simp; done)) _ | (refine New.trans ?_ (by assumption))))).own 2 (by omega) (by omega)) _ _ _ [.slice sa sn sc] (by rfl) (by rfl) (World.news_of_block (cs := #[.slice sa sn sc]) (t := 25) (fr := (0, 0)) (heap_alloc_at (by simp))) (by simp [Value.oneCell']) (by omega) (by unfold maxLen; omega) (by omega) (by simp; omega) _ rfl ?_); go_loud (intro g cap wq ho hg hb' hlt'; have GX := GrowBox.grow (o := 2) (GB8.out.kept (by repeat (first | with_reducible exact New.refl _ | with_reducible assumption | refine New.drewN ?_ _ | refine New.drew ?_ | refine New.alloc ?_ _ | refine New.setCell ?_ (by first | omega | (simp; omega) | (simp; done)) _ | (refine New.trans ?_ (by assumption))))) (by omega) (by omega) ho hg hb'; have GC := fun (R : World → Prop) (c : Cold w.heap.size w4.heap.size v8 w8 R) => GrowBox.cold (cap := cap) (n' := k + 1) (g := g) (o := 2) (GB8.out.kept (by repeat (first | with_reducible exact New.refl _ | with_reducible assumption | refine New.drewN ?_ _ | refine New.drew ?_ | refine New.alloc ?_ _ | refine New.setCell ?_ (by first | omega | (simp; omega) | (simp; done)) _ | (refine New.trans ?_ (by assumption))))) (by omega) (by omega) hg hb' (c.kept (by repeat (first | with_reducible exact New.refl _ | with_reducible assumption | refine New.drewN ?_ _ | refine New.drew ?_ | refine New.alloc ?_ _ | refine New.setCell ?_ (by first | omega | (simp; omega) | (simp; done)) _ | (refine New.trans ?_ (by assumption))))); have c9' : wq.cell? ⟨w4.heap.size, 2, none⟩ = some (v8 2) := hg.cell (World.cell_kept c9) (fun e => by have := (((GB8.out.kept (by repeat (first | with_reducible exact New.refl _ | with_reducible assumption | refine New.drewN ?_ _ | refine New.drew ?_ | refine New.alloc ?_ _ | refine New.setCell ?_ (by first | omega | (simp; omega) | (simp; done)) _ | (refine New.trans ?_ (by assumption))))).own 2 (by omega) (by omega)).lt w4.heap.size e.symm).1; omega); have f9' : wq.frozen? ⟨w4.heap.size, 2, none⟩ = false := (hg.frozen_far ⟨w4.heap.size, 2, none⟩ (by simp; omega) (fun e => by have := (((GB8.out.kept (by repeat (first | with_reducible exact New.refl _ | with_reducible assumption | refine New.drewN ?_ _ | refine New.drew ?_ | refine New.alloc ?_ _ | refine New.setCell ?_ (by first | omega | (simp; omega) | (simp; done)) _ | (refine New.trans ?_ (by assumption))))).own 2 (by omega) (by omega)).lt w4.heap.size e.symm).1; omega)).trans (New.frz (w := w8) (by repeat (first | with_reducible exact New.refl _ | with_reducible assumption | refine New.drewN ?_ _ | refine New.drew ?_ | refine New.alloc ?_ _ | refine New.setCell ?_ (by first | omega | (simp; omega) | (simp; done)) _ | (refine New.trans ?_ (by assumption)))) c9 f9); have KX9 := Lib.hid GX; have KC9 := Lib.hid GC; clear ho hg hb' hlt' GX GC))
      obtain ⟨w9, hw9⟩ : ∃ w9, w9 = wq.setCell ⟨w4.heap.size, 2, none⟩ (.slice (some ⟨g, 0, none⟩) (k + 1) cap) := ⟨_, rfl⟩
      obtain ⟨v9, hv9⟩ : ∃ v9, v9 = upd v8 2 (.slice (some ⟨g, 0, none⟩) (k + 1) cap) := ⟨_, rfl⟩
      rw [← hw9]
      have GB9 := Lib.hid (show GrowBox w w9 _ _ _ _ v9 _ _ _ by rw [hw9, hv9]; exact KX9.out)
      have KD := Lib.hid (show ∀ R : World → Prop, Cold w.heap.size w4.heap.size v8 w8 R → Cold w.heap.size w4.heap.size v9 w9 R by rw [hw9, hv9]; exact KC9.out)
      have CE9 := Lib.hid (KD.out _ CE8.out)
      have CS9 := Lib.hid (KD.out _ CS8.out)
      have CSA9 := Lib.hid (fun j hj => KD.out _ (CSA8.out j hj))
      have CRA9 := Lib.hid (fun j hj => KD.out _ (CRA8.out j hj))
      have V9 := Lib.hid (show v9 1 = .slice oa on oc by rw [hv9]; exact V8.out)
      clear hw9 hv9 KX9 KC9 KD c9 f9 c9' f9' z9 GB8 CE8 CS8 CSA8 CRA8 V8
      have c10 := GB9.out.cell 3 (by omega)
      have f10 := GB9.out.box.frozen 3
      have z10 := GB9.out.box.lt
      go_upto_region 10 with (at_builtin; go_must (refine wpList_append_lies _ (by rfl) (.tmp 44) (.tmp 46) 78 (by rfl) (w4.heap.size + 1) 24 i3 (.slice none 0 0) 1 24 Try.underlying78 hh hv0 hv1 hv2 rfl (by decide) (v9 3) k _ (by rfl) ((GB9.out.kept (by repeat (first | with_reducible exact New.refl _ | with_reducible assumption | refine New.drewN ?_ _ | refine New.drew ?_ | refine New.alloc ?_ _ | refine New.setCell ?_ (by first | omega | (simp; omega) | (simp; done)) _ | (refine New.trans ?_ (by assumption))))).own 3 (by omega) (by omega)) _ _ _ [.slice oa on oc] (by rfl) (by rfl) (World.news_of_block (cs := #[.slice oa on oc]) (t := 24) (fr := (0, 0)) (heap_alloc_at (by simp))) (by simp [Value.oneCell']) (by omega) (by unfold maxLen; omega) (by omega) (by simp; omega) _ rfl ?_); go_loud (intro g cap wq ho hg hb' hlt'; have GX := GrowBox.grow (o := 3) (GB9.out.kept (by repeat (first | with_reducible exact New.refl _ | with_reducible assumption | refine New.drewN ?_ _ | refine New.drew ?_ | refine New.alloc ?_ _ | refine New.setCell ?_ (by first | omega | (simp; omega) | (simp; done)) _ | (refine New.trans ?_ (by assumption))))) (by omega) (by omega) ho hg hb'; have GC := fun (R : World → Prop) (c : Cold w.heap.size w4.heap.size v9 w9 R) => GrowBox.cold (cap := cap) (n' := k + 1) (g := g) (o := 3) (GB9.out.kept (by repeat (first | with_reducible exact New.refl _ | with_reducible assumption | refine New.drewN ?_ _ | refine New.drew ?_ | refine New.alloc ?_ _ | refine New.setCell ?_ (by first | omega | (simp; omega) | (simp; done)) _ | (refine New.trans ?_ (by assumption))))) (by omega) (by omega) hg hb' (c.kept (by repeat (first | with_reducible exact New.refl _ | with_reducible assumption | refine New.drewN ?_ _ | refine New.drew ?_ | refine New.alloc ?_ _ | refine New.setCell ?_ (by first | omega | (simp; omega) | (simp; done)) _ | (refine New.trans ?_ (by assumption))))); have c10' : wq.cell? ⟨w4.heap.size, 3, none⟩ = some (v9 3) := hg.cell (World.cell_kept c10) (fun e => by have := (((GB9.out.kept (by repeat (first | with_reducible exact New.refl _ | with_reducible assumption | refine New.drewN ?_ _ | refine New.drew ?_ | refine New.alloc ?_ _ | refine New.setCell ?_ (by first | omega | (simp; omega) | (simp; done)) _ | (refine New.trans ?_ (by assumption))))).own 3 (by omega) (by omega)).lt w4.heap.size e.symm).1; omega); have f10' : wq.frozen? ⟨w4.heap.size, 3, none⟩ = false := (hg.frozen_far ⟨w4.heap.size, 3, none⟩ (by simp; omega) (fun e => by have := (((GB9.out.kept (by repeat (first | with_reducible exact New.refl _ | with_reducible assumption | refine New.drewN ?_ _ | refine New.drew ?_ | refine New.alloc ?_ _ | refine New.setCell ?_ (by first | omega | (simp; omega) | (simp; done)) _ | (refine New.trans ?_ (by assumption))))).own 3 (by omega) (by omega)).lt w4.heap.size e.symm).1; omega)).trans (New.frz (w := w9) (by repeat (first | with_reducible exact New.refl _ | with_reducible assumption | refine New.drewN ?_ _ | refine New.drew ?_ | refine New.alloc ?_ _ | refine New.setCell ?_ (by first | omega | (simp; omega) | (simp; done)) _ | (refine New.trans ?_ (by assumption)))) c10 f10); have KX10 := Lib.hid GX; have KC10 := Lib.hid GC; clear ho hg hb' hlt' GX GC))
      obtain ⟨w10, hw10⟩ : ∃ w10, w10 = wq.setCell ⟨w4.heap.size, 3, none⟩ (.slice (some ⟨g, 0, none⟩) (k + 1) cap) := ⟨_, rfl⟩
      obtain ⟨v10, hv10⟩ : ∃ v10, v10 = upd v9 3 (.slice (some ⟨g, 0, none⟩) (k + 1) cap) := ⟨_, rfl⟩
      rw [← hw10]
      have GB10 := Lib.hid (show GrowBox w w10 _ _ _ _ v10 _ _ _ by rw [hw10, hv10]; exact KX10.out)
      have KD := Lib.hid (show ∀ R : World → Prop, Cold w.heap.size w4.heap.size v9 w9 R → Cold w.heap.size w4.heap.size v10 w10 R by rw [hw10, hv10]; exact KC10.out)
      have CE10 := Lib.hid (KD.out _ CE9.out)
      have CS10 := Lib.hid (KD.out _ CS9.out)
      have CSA10 := Lib.hid (fun j hj => KD.out _ (CSA9.out j hj))
      have CRA10 := Lib.hid (fun j hj => KD.out _ (CRA9.out j hj))
      have V10 := Lib.hid (show v10 1 = .slice oa on oc by rw [hv10]; exact V9.out)
      clear hw10 hv10 KX10 KC10 KD c10 f10 c10' f10' z10 GB9 CE9 CS9 CSA9 CRA9 V9
      go_wp2_with fail
      go_roundw
      case rel =>
        refine ⟨k + 1, v10, fun j => if j = k then (sa, sn, sc) else hs j, fun j => if j = k then (oa, on, oc) else hr j, oa, on, oc, by omega, by go_num, V10.out, GB10.out.eqv fun o h1 h2 => ?_, CE10.out, fun j hj => ?_, fun j hj => ?_⟩
        · have hc : o = 0 ∨ o = 2 ∨ o = 3 := by omega
          rcases hc with rfl | rfl | rfl
          · refine ⟨rfl, ?_⟩
            show (givesTo l xs k).map (Value.int .i64) ++ [.int .i64 (giveK l xs k)] = (givesTo l xs (k + 1)).map (Value.int .i64)
            rw [givesTo_succ, List.map_append]; rfl
          · exact ⟨rfl, (heads_succ hs k (sa, sn, sc)).symm⟩
          · exact ⟨rfl, (heads_succ hr k (oa, on, oc)).symm⟩
        · by_cases e : j = k
          · subst e
            simp only [if_pos]
            exact CS10.out
          · simp only [if_neg e]
            exact CSA10.out j (by omega)
        · by_cases e : j = k
          · subst e
            simp only [if_pos]
            exact CE10.out
          · simp only [if_neg e]
            exact CRA10.out j (by omega)
      case measure => simp [intOf]; omega
    · obtain rfl : k = m := by omega
      have x0 := GB.out.own 0 (by omega) (by omega)
      have x2 := GB.out.own 2 (by omega) (by omega)
      have x3 := GB.out.own 3 (by omega) (by omega)
      have hl := GB.out.le
      obtain ⟨ga, gc, y0, p0⟩ := Own.of_row (show wr.ownsRow (w4.heap.size + 1) 3 1 (v 0) k ((givesTo l xs k).map (Value.int .i64)) from x0)
      obtain ⟨sa, sc, y2⟩ := slice_of_row x2
      obtain ⟨ra, rc, y3⟩ := slice_of_row x3
      have BX := Lib.hid (show WB wr w4.heap.size [.slice ga k gc, .slice ea en ec, .slice sa k sc, .slice ra k rc] 80 by have := GB.out.box; rw [y0, hv1', y2, y3] at this; exact this)
      have X2 := Lib.hid (show wr.ownsRow (w4.heap.size + 1) 25 1 (.slice sa k sc) k ((List.range k).map fun j => headV (hs j)) by rw [← y2]; exact x2)
      have X3 := Lib.hid (show wr.ownsRow (w4.heap.size + 1) 24 1 (.slice ra k rc) k ((List.range k).map fun j => headV (hr j)) by rw [← y3]; exact x3)
      have P0 := Lib.hid p0
      clear x0 x2 x3 y0 y2 y3 p0 c1 hv1'
      go_wp2_with (first
        | (refine wpList_load_blk rfl 80 (.tmp 5) rfl w4.heap.size 0 rfl _ [.slice ga k gc, .slice ea en ec, .slice sa k sc, .slice ra k rc] 80 BX.out (fun j v hv => by rw [Nat.zero_add]; exact hv) _ Try.underlying80 rfl (by kernel_rfl) ?_)
        | ((with_reducible (show wpList _ _ _ ({ dst := none, op := .store _ _ _, type := _, pos := _, after := _, guard := _ } :: _) _ _)); go_must (refine wpList_store_blk rfl 80 (.tmp 4) (.tmp 50) rfl w.heap.size 0 [.slice none 0 0, .slice none 0 0, .slice none 0 0, .slice none 0 0] [.slice ga k gc, .slice ea en ec, .slice sa k sc, .slice ra k rc] 80 rfl rfl GB.out.box0 (by simp) (by kernel_rfl) (by simp [Value.oneCell']) ?_); intro wq hb_ hc_; have HB8 := Lib.hid (WB.eqv hb_.out (splice_zero _ _ rfl)); have HC8 := Lib.hid hc_; have N8 := Lib.hid (Chg.new GB.out.new hc_ (fun i hi => by omega)); clear hb_ hc_))
      refine bodyPost_ret (v := .agg #[.slice ga k gc, .slice ea en ec, .slice sa k sc, .slice ra k rc]) (res_go rfl HB8.out rfl) rfl ?_
      have far : ∀ b, w4.heap.size + 1 ≤ b → ¬ b = w.heap.size := fun b hb => by omega
      have GC := fun (R : World → Prop) (c : Cold w.heap.size w4.heap.size v wr R) => c wq fun b hb hn => HC8.out.block b hb (fun e => hn (.inl (.inr (Nat.le_of_eq e))))
      refine ⟨ga, gc, ea, en, ec, sa, sc, ra, rc, rfl, (P0.out.chg HC8.out (fun b h1 _ => far b h1)).mono (by omega) HC8.out.size, GC _ CE.out, ?_, ?_, N8.out⟩
      · refine ⟨hs, fun w'' hag => ?_⟩
        have hs8 := HC8.out.size
        have oh := ownsRow_block X2.out fun g e => (hag g (by have := (X2.out.lt g e).1; omega) (by have := (X2.out.lt g e).2; omega)).trans (HC8.out.block g (X2.out.lt g e).2 (far g (X2.out.lt g e).1))
        have hi : ∀ j, j < k → Ints w'' (hs j).1 (hs j).2.1 (hs j).2.2 (spillsAt l xs j) := fun j hj =>
          (CS.out j hj) w'' fun b hb hn => (hag b (by have : ¬ b ≤ w.heap.size := fun q => hn (.inl (.inr q)); omega) (by omega)).trans (HC8.out.block b hb (fun e => hn (.inl (.inr (Nat.le_of_eq e)))))
        refine ⟨IntSS.of_heads (k := k) oh (spillsTo_length _ _ _) fun j hj => ?_, fun j hj => ?_⟩
        · have e : (spillsTo l xs k)[j]?.getD [] = spillsAt l xs j := by simp [spillsTo, hj]
          rw [e]
          exact hi j hj
        · obtain ⟨b, e1, e2⟩ := (row_heads oh).2.2.1 j hj
          exact ⟨b, e1, e2, hi j hj⟩
      · refine BasSS.of_heads (k := k) ((ownsRow_block X3.out fun g e => HC8.out.block g (X3.out.lt g e).2 (far g (X3.out.lt g e).1))) (rowsTo_length _ _ _) fun j hj => ?_
        have e : (rowsTo l xs k)[j]?.getD [] = rowK l xs (j + 1) := by simp [rowsTo, hj]
        rw [e]
        exact GC _ (CR.out j hj)
theorem weGo_any (w : World) (aa : Option Addr) (n ca : Nat) (l : List (Int × Int × Int)) (ab : Option Addr) (m cb : Nat) (xs : List Int) (ha : Basins w aa n ca l) (hx : Ints w ab m cb xs) (hl : RowOk l) (hf : FlowOk xs) :
    Calls Try.prog 52 #[.slice aa n ca, .slice ab m cb] w fun e w' => ∃ ga gc ea en ec sa sc ra rc, e = .returned (.agg #[.slice ga m gc, .slice ea en ec, .slice sa m sc, .slice ra m rc]) ∧ Own w' w.heap.size w'.heap.size ga m gc (givesTo l xs m) ∧ Basins w' ea en ec (rowK l xs m) ∧ IntSS w' sa m sc (spillsTo l xs m) ∧ BasSS w' ra m rc (rowsTo l xs m) ∧ New w w' := by
  refine (weGo_far w aa n ca l ab m cb xs ha hx hl hf).mono ?_
  rintro e w' ⟨ga, gc, ea, en, ec, sa, sc, ra, rc, he, o1, ib, ⟨_, is⟩, bs, hn⟩
  exact ⟨ga, gc, ea, en, ec, sa, sc, ra, rc, he, o1, ib, (is w' (fun _ _ _ => rfl)).1, bs, hn⟩
end Go.Proofs.Ytchnnbkaiagpgaa
