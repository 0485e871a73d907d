/- TickRow: the model's and the program's. -/
import Derived.Test.YtchnnbkaiagpgaaTicks5
import Derived.Test.YtchnnbkaiagpgaaWeT
import Derived.Deep.RegionHeld3
namespace Go.Proofs.Ytchnnbkaiagpgaa
open Go.RowKit Go.Conc

def trB (l : List (Int × Int × Int)) (x : Int) : Bool := rowB l && inB 0 1000 x
def trL (l : List (Int × Int × Int)) (x : Int) : List (Int × Int × Int) := if trB l x then tickL l x else []
def trG (l : List (Int × Int × Int)) (x : Int) : Int := if trB l x then giveL l x else 0
theorem trB_iff {l : List (Int × Int × Int)} {x : Int} : trB l x = true ↔ RowOk l ∧ 0 ≤ x ∧ x ≤ 1000 := by unfold trB; rw [Bool.and_eq_true, rowB_iff, inB_iff]
theorem trL_small (l : List (Int × Int × Int)) (x : Int) : (trL l x).length ≤ 1048576 := by
  unfold trL
  split
  · rename_i h
    have := (trB_iff.1 h).1.2.1
    rw [tickL_length]; omega
  · simp

set_option maxRecDepth 100000 in
theorem sTickRow_any (w : World) (aa : Option Addr) (n ca : Nat) (l : List (Int × Int × Int)) (x : Int) (ha : Basins w aa n ca l) :
    Calls Try.prog 47 #[.slice aa n ca, .int .i64 x] w fun e w' => ∃ oa on oc, e = .returned (.tuple #[.slice oa on oc, .int .i64 (trG l x), .bool (trB l x)]) ∧ OwnBasin w' w.heap.size w'.heap.size oa on oc (trL l x) ∧ New w w' := by
  have HA := Lib.hid ha; clear ha
  by_cases h1 : rowB l = true
  · by_cases h2 : inB 0 1000 x = true
    · have hb : trB l x = true := by unfold trB; rw [h1, h2]; rfl
      have HM := Lib.hid (show trB l x = true ∧ trL l x = tickL l x ∧ trG l x = giveL l x from ⟨hb, by unfold trL; rw [if_pos hb], by unfold trG; rw [if_pos hb]⟩)
      have HC := Lib.hid (trB_iff.1 hb); clear hb
      go_enter Try.func47, Try.ntmps47
      go_wp2_with fail
      refine (weRow_any _ _ _ _ l HA.out).mono ?_
      rintro e w1 ⟨rfl, n1⟩
      have N1 := Lib.hid n1; clear n1
      go_wp2_with fail
      refine (l1In_any _ _ _ _).mono ?_
      rintro e w9 ⟨rfl, rfl⟩
      go_wp2_with fail
      refine (weTick_any _ _ _ _ l x (HA.out.new N1.out) HC.out.1 HC.out.2.1 HC.out.2.2).mono ?_
      rintro e w2 ⟨oa, on, oc, sa, sn, sc, rfl, o1, _, _, n2⟩
      go_wp2_with fail
      go_ret3
      rw [HM.out.1, HM.out.2.1, HM.out.2.2]
      exact ⟨_, _, _, rfl, o1.mono N1.out.size (Nat.le_refl _), N1.out.trans n2⟩
    · have h2f := bool_no h2
      have HM := Lib.hid (show trB l x = false ∧ trL l x = [] ∧ trG l x = 0 by
        have hb : trB l x = false := by unfold trB; rw [h2f]; simp
        exact ⟨hb, by unfold trL; rw [hb]; rfl, by unfold trG; rw [hb]; rfl⟩)
      go_enter Try.func47, Try.ntmps47
      go_wp2_with fail
      refine (weRow_any _ _ _ _ l HA.out).mono ?_
      rintro e w1 ⟨rfl, n1⟩
      have N1 := Lib.hid n1; clear n1
      go_wp2_with fail
      refine (l1In_any _ _ _ _).mono ?_
      rintro e w9 ⟨rfl, rfl⟩
      go_wp2_with fail
      go_ret3
      rw [HM.out.1, HM.out.2.1, HM.out.2.2]
      exact ⟨_, _, _, rfl, OwnBasin.nil _ _ _, N1.out⟩
  · have h1f := bool_no h1
    have HM := Lib.hid (show trB l x = false ∧ trL l x = [] ∧ trG l x = 0 by
      have hb : trB l x = false := by unfold trB; rw [h1f]; rfl
      exact ⟨hb, by unfold trL; rw [hb]; rfl, by unfold trG; rw [hb]; rfl⟩)
    go_enter Try.func47, Try.ntmps47
    go_wp2_with fail
    refine (weRow_any _ _ _ _ l HA.out).mono ?_
    rintro e w1 ⟨rfl, n1⟩
    have N1 := Lib.hid n1; clear n1
    go_wp2_with fail
    go_ret3
    rw [HM.out.1, HM.out.2.1, HM.out.2.2]
    exact ⟨_, _, _, rfl, OwnBasin.nil _ _ _, N1.out⟩

theorem tick_row (w : World) (l : List (Int × Int × Int)) (x : Int) (hl : RowOk l) (h0 : 0 ≤ x) (h1 : x ≤ 1000) :
    Calls Try.prog 62 #[rowV l, .int .i64 x] w fun e w' => e = .returned (tkV (basA (tickL l x)) l.length (hadA l x l.length) (giveL l x)) ∧ New w w' := by
  have h := tick_any w l x hl h0 h1
  rw [newA_full] at h
  exact h

set_option maxRecDepth 100000 in
set_option maxHeartbeats 2000000 in
set_option linter.unusedSimpArgs false in
theorem iTickRow_any (w : World) (aa : Option Addr) (n ca : Nat) (l : List (Int × Int × Int)) (x : Int) (ha : Basins w aa n ca l) :
    Calls Try.prog 25 #[.slice aa n ca, .int .i64 x] w fun e w' => ∃ oa on oc, e = .returned (.tuple #[.slice oa on oc, .int .i64 (trG l x), .bool (trB l x)]) ∧ OwnBasin w' w.heap.size w'.heap.size oa on oc (trL l x) ∧ New w w' := by
  have HN := Lib.hid ha.1
  have HA := Lib.hid ha; clear ha
  by_cases h1 : rowB l = true
  · by_cases h2 : inB 0 1000 x = true
    · have hb : trB l x = true := by unfold trB; rw [h1, h2]; rfl
      have HM := Lib.hid (show trB l x = true ∧ trL l x = tickL l x ∧ trG l x = giveL l x from ⟨hb, by unfold trL; rw [if_pos hb], by unfold trG; rw [if_pos hb]⟩)
      have HC := Lib.hid (trB_iff.1 hb); clear hb
      have r1 : 1 ≤ n := by have := HC.out.1.1; have := HN.out; omega
      have r6 : n ≤ 6 := by have := HC.out.1.2.1; have := HN.out; omega
      have TO := Lib.hid (tickL_ok HC.out.1 HC.out.2.1)
      go_enter Try.func25, Try.ntmps25
      go_wp2_with fail
      refine (iIsRow_any _ _ _ _ l HA.out).mono ?_
      rintro e w1 ⟨rfl, n1⟩
      have N1 := Lib.hid n1; clear n1
      go_wp2_with fail
      refine (isFlow_any _ _).mono ?_
      rintro e w9 ⟨rfl, rfl⟩
      go_wp2_with fail
      refine (stateOf_any _ _ _ _ l (HA.out.new N1.out) r1 r6).mono ?_
      rintro e w3 ⟨rfl, n3⟩
      have N3 := Lib.hid (N1.out.trans n3); clear n3
      go_wp2_with fail
      refine (tick_row _ l x HC.out.1 HC.out.2.1 HC.out.2.2).mono ?_
      rintro e w4 ⟨rfl, n4⟩
      have N4 := Lib.hid (N3.out.trans n4); clear n4
      go_upto_region 4 with ((with_reducible (show wpList _ _ _ ({ dst := none, op := .store _ _ _, type := _, pos := _, after := _, guard := _ } :: _) _ _)); go_must (refine wpList_store_blk rfl 75 (.tmp 7) (.tmp 19) rfl w4.heap.size 0 (tkC (fun _ => (0, 0, 0)) 0 (fun _ => 0) 0) (tkC (basA (tickL l x)) l.length (hadA l x l.length) (giveL l x)) 75 rfl rfl (heap_alloc_new _ _) (by simp [tkC_length]) (by kernel_rfl) (tkC_one _ _ _ _) ?_); intro w5 hb_ hc_; have HB5 := Lib.hid (WB.eqv hb_.out (splice_zero _ _ rfl)); have N5 := Lib.hid (Chg.new (w0 := w) (N4.out.trans (by repeat (first | with_reducible exact New.refl _ | with_reducible assumption | refine New.drewN ?_ _ | refine New.drew ?_ | refine New.alloc ?_ _ | refine New.setCell ?_ (by first | omega | (simp; omega) | (simp; done)) _ | (refine New.trans ?_ (by assumption))))) hc_ (fun i hi => by have := N4.out.size; omega)); clear hb_ hc_)
      have er : Value.agg (stC (basA (tickL l x)) (l.length : Int)).toArray = rowV (tickL l x) := by show _ = Value.agg (stC (basA (tickL l x)) ((tickL l x).length : Int)).toArray; rw [tickL_length]
      obtain ⟨f, hf⟩ : ∃ f, f = basA (tickL l x) := ⟨_, rfl⟩
      obtain ⟨hh, hhh⟩ : ∃ hh, hh = hadA l x l.length := ⟨_, rfl⟩
      obtain ⟨gv, hgv⟩ : ∃ gv, gv = giveL l x := ⟨_, rfl⟩
      obtain ⟨mm, hmm⟩ : ∃ mm : Int, mm = (l.length : Int) := ⟨_, rfl⟩
      rw [← hf, ← hmm] at er
      rw [← hf, ← hhh, ← hgv, ← hmm] at HB5
      rw [← hf, ← hhh, ← hgv, ← hmm]
      have HG := Lib.hid hgv
      have HE := Lib.hid er; clear er hf hhh hgv hmm
      clear r1 r6 h1 h2
      have q25 := HB5.out.cell (k := 25) (v := .int .i64 gv) rfl
      refine wp_region_held_drew (S := fun w' => WB w' w4.heap.size (tkC f mm hh gv) 75 ∧ w'.cell? ⟨w4.heap.size, 25, none⟩ = some (.int .i64 gv)) (by kernel_rfl) ⟨HB5.out, q25⟩ (fun hHeld => ?_)
      refine wpAnyH_take (i := 0) (oi := ⟨some 20, _, _, _, _, _⟩) (v := ?_) rfl (by kernel_rfl) (by kernel_rfl) (by kernel_rfl) (fun _ _ _ h => h) (Or.inl ⟨by rfl, ?_⟩) hHeld ?_; rotate_left; (· (intro w_ hSw; (try dsimp only at hSw); (try go_split_ands); go_simp; (try with_reducible rfl))); (try simp only [Act.put, List.setIfInBounds_toArray, List.set_cons_zero, List.set_cons_succ])
      refine wpAnyH_take (i := 1) (oi := ⟨some 21, _, _, _, _, _⟩) rfl (by kernel_rfl) (by kernel_rfl) (by kernel_rfl) (fun _ _ _ h => h) (yieldsIf_load_mid (by rfl) _ _ rfl w4.heap.size 0 rfl (stC f mm) _ (fun w_ hS_ => hS_.1.range 0 (fun j v hv => by rw [Nat.zero_add]; unfold tkC; rw [List.getElem?_append_left (List.getElem?_eq_some_iff.1 hv).1]; exact hv)) Try.underlying72 rfl (by kernel_rfl)) hHeld ?_; (try simp only [Act.put, List.setIfInBounds_toArray, List.set_cons_zero, List.set_cons_succ])
      refine wpAnyH_take (i := 3) (oi := ⟨some 23, _, _, _, _, _⟩) (v := ?_) rfl (by kernel_rfl) (by kernel_rfl) (by kernel_rfl) (fun _ _ _ h => h) (Or.inl ⟨by rfl, ?_⟩) hHeld ?_; rotate_left; (· (intro w_ hSw; (try dsimp only at hSw); (try go_split_ands); go_simp; (try with_reducible rfl))); (try simp only [Act.put, List.setIfInBounds_toArray, List.set_cons_zero, List.set_cons_succ])
      refine wpAnyH_take (i := 4) (oi := ⟨some 24, _, _, _, _, _⟩) (v := ?_) rfl (by kernel_rfl) (by kernel_rfl) (by kernel_rfl) (fun _ _ _ h => h) (Or.inl ⟨by rfl, ?_⟩) hHeld ?_; rotate_left; (· (intro w_ hSw; (try dsimp only at hSw); (try go_split_ands); go_simp; (try with_reducible rfl))); (try simp only [Act.put, List.setIfInBounds_toArray, List.set_cons_zero, List.set_cons_succ])
      refine wpAnyH_ready (rs := [2]) (by kernel_rfl) (by simp) ?_
      refine AllReadyH.cons (o := ⟨some 22, _, _, _, _, _⟩) rfl (fun K hK => ?_) AllReadyH.nil
      go_simp
      refine (show Calls Try.prog 54 #[.agg (stC f mm).toArray] _ _ from by rw [HE.out]; exact row_any _ (tickL l x) TO.out.1 TO.out.2.1).mono ?_
      rintro e w6 ⟨oa, on, oc, rfl, o6, n6⟩
      refine hK.out _ _ ⟨(show WB w5.drew _ _ _ from HB5.out).new n6, n6.cell (by exact q25)⟩ (fun hHeld => ?_)
      clear hK K
      try simp only [Act.put, List.setIfInBounds_toArray, List.set_cons_zero, List.set_cons_succ]
      refine wpAnyH_take (i := 5) (oi := ⟨some 4, _, _, _, _, _⟩) (v := ?_) rfl (by kernel_rfl) (by kernel_rfl) (by kernel_rfl) (fun _ _ _ h => h) (Or.inl ⟨by rfl, ?_⟩) hHeld ?_; rotate_left; (· (intro w_ hSw; (try dsimp only at hSw); (try go_split_ands); go_simp; (try with_reducible rfl))); (try simp only [Act.put, List.setIfInBounds_toArray, List.set_cons_zero, List.set_cons_succ])
      refine wpAnyH_take (i := 6) (oi := ⟨some 5, _, _, _, _, _⟩) (v := ?_) rfl (by kernel_rfl) (by kernel_rfl) (by kernel_rfl) (fun _ _ _ h => h) (Or.inl ⟨by rfl, ?_⟩) hHeld ?_; rotate_left; (· (intro w_ hSw; (try dsimp only at hSw); (try go_split_ands); go_simp; (try with_reducible rfl))); (try simp only [Act.put, List.setIfInBounds_toArray, List.set_cons_zero, List.set_cons_succ])
      refine wpAnyH_take (i := 7) (oi := ⟨some 6, _, _, _, _, _⟩) (v := ?_) rfl (by kernel_rfl) (by kernel_rfl) (by kernel_rfl) (fun _ _ _ h => h) (Or.inl ⟨by rfl, ?_⟩) hHeld ?_; rotate_left; (· (intro w_ hSw; (try dsimp only at hSw); (try go_split_ands); go_simp; (try with_reducible rfl))); (try simp only [Act.put, List.setIfInBounds_toArray, List.set_cons_zero, List.set_cons_succ])
      refine wpAnyH_done (by kernel_rfl) ?_ _
      all_goals go_wp2_with fail
      all_goals go_ret3
      all_goals
        rw [HM.out.1, HM.out.2.1, HM.out.2.2, ← HG.out]
        have k6 : New w5 w6 := New.trans (by repeat (first | with_reducible exact New.refl _ | with_reducible assumption | refine New.drewN ?_ _ | refine New.drew ?_ | refine New.alloc ?_ _ | refine New.setCell ?_ (by first | omega | (simp; omega) | (simp; done)) _ | (refine New.trans ?_ (by assumption)))) n6
        exact ⟨_, _, _, rfl, o6.mono (by have := N5.out.size; simp; omega) (Nat.le_refl _), N5.out.trans k6⟩
    · have h2f := bool_no h2
      have HM := Lib.hid (show trB l x = false ∧ trL l x = [] ∧ trG l x = 0 by
        have hb : trB l x = false := by unfold trB; rw [h2f]; simp
        exact ⟨hb, by unfold trL; rw [hb]; rfl, by unfold trG; rw [hb]; rfl⟩)
      go_enter Try.func25, Try.ntmps25
      go_wp2_with fail
      refine (iIsRow_any _ _ _ _ l HA.out).mono ?_
      rintro e w1 ⟨rfl, n1⟩
      have N1 := Lib.hid n1; clear n1
      go_wp2_with fail
      refine (isFlow_any _ _).mono ?_
      rintro e w9 ⟨rfl, rfl⟩
      go_wp2_with fail
      go_ret3
      rw [HM.out.1, HM.out.2.1, HM.out.2.2]
      exact ⟨_, _, _, rfl, OwnBasin.nil _ _ _, N1.out⟩
  · have h1f := bool_no h1
    have HM := Lib.hid (show trB l x = false ∧ trL l x = [] ∧ trG l x = 0 by
      have hb : trB l x = false := by unfold trB; rw [h1f]; rfl
      exact ⟨hb, by unfold trL; rw [hb]; rfl, by unfold trG; rw [hb]; rfl⟩)
    go_enter Try.func25, Try.ntmps25
    go_wp2_with fail
    refine (iIsRow_any _ _ _ _ l HA.out).mono ?_
    rintro e w1 ⟨rfl, n1⟩
    have N1 := Lib.hid n1; clear n1
    go_wp2_with fail
    go_ret3
    rw [HM.out.1, HM.out.2.1, HM.out.2.2]
    exact ⟨_, _, _, rfl, OwnBasin.nil _ _ _, N1.out⟩
end Go.Proofs.Ytchnnbkaiagpgaa
