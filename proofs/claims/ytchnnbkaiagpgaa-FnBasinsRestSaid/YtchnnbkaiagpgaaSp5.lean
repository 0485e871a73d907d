/- SpillsOf: the model's and the program's. -/
import Derived.Test.YtchnnbkaiagpgaaFs
import Derived.Deep.RegionHeld3
import Derived.Test.YtchnnbkaiagpgaaTicks5
import Derived.Test.YtchnnbkaiagpgaaWeGo
namespace Go.Proofs.Ytchnnbkaiagpgaa
open Go.RowKit Go.Conc

/-- How much the basin i has spilt ahead of the tick k. -/
def soK (l : List (Int × Int × Int)) (xs : List Int) : Nat → Nat → Int
  | 0, _ => 0
  | k + 1, i => soK l xs k i + spAt l xs k i
theorem soK_bd {l : List (Int × Int × Int)} {xs : List Int} (hl : RowOk l) (hx : FlowOk xs) (k i : Nat) (hk : k ≤ xs.length) (hi : i < l.length) : 0 ≤ soK l xs k i ∧ soK l xs k i ≤ 7000 * (k : Int) := by
  induction k with
  | zero => exact ⟨Int.le_refl _, by simp [soK]⟩
  | succ k ih =>
    have a := ih (by omega)
    have b := spAt_bd hl hx k i (by omega) hi
    unfold soK
    omega
def so2 (l : List (Int × Int × Int)) (xs : List Int) (k j i : Nat) : Int := if i < j then soK l xs (k + 1) i else soK l xs k i
def soM (l : List (Int × Int × Int)) (xs : List Int) : List Int := if askB l xs then (List.range l.length).map (soK l xs xs.length) else []
theorem soM_small (l : List (Int × Int × Int)) (xs : List Int) : (soM l xs).length ≤ 1048576 := by
  unfold soM
  split
  · rename_i h
    have := (askB_iff.1 h).1.2.1
    rw [List.length_map, List.length_range]; omega
  · simp

set_option maxRecDepth 100000 in
set_option maxHeartbeats 2000000 in
theorem sSpillsOf_any (w : World) (aa : Option Addr) (n ca : Nat) (l : List (Int × Int × Int)) (ab : Option Addr) (m cb : Nat) (xs : List Int) (ha : Basins w aa n ca l) (hx : Ints w ab m cb xs) :
    Calls Try.prog 12 #[.slice aa n ca, .slice ab m cb] w fun e w' => ∃ oa on oc, e = .returned (.tuple #[.slice oa on oc, .bool (askB l xs)]) ∧ Own w' w.heap.size w'.heap.size oa on oc (soM l xs) ∧ New w w' := by
  have HN := Lib.hid ha.1
  have HM := Lib.hid hx.1
  have hnn := ha.2.2.1
  have hmm := hx.2.2.1
  have HA := Lib.hid ha; clear ha
  have HX := Lib.hid hx; clear hx
  by_cases h : askB l xs = true
  · have HR := Lib.hid (show askB l xs = true ∧ soM l xs = (List.range n).map (soK l xs m) from ⟨h, by unfold soM; rw [if_pos h, HM.out, HN.out]⟩)
    have HC := Lib.hid (askB_iff.1 h); clear h
    have m60 : m ≤ 60 := by have := HC.out.2.1; have := HM.out; omega
    have n6 : n ≤ 6 := by have := HC.out.1.2.1; have := HN.out; omega
    have hmk := run_make_row' (P := Try.prog) 25 3 (.int .i64 0) 8 Try.underlying25 Try.infoInt rfl .i64 .i64 n (by omega) (by omega)
    go_enter Try.func12, Try.ntmps12
    go_wp2_with fail
    refine (weAsked_any _ _ _ _ l _ _ _ xs HA.out HX.out).mono ?_
    rintro e w1 ⟨hr1, n1⟩
    rw [HR.out.1] at hr1
    subst hr1
    have N1 := Lib.hid n1; clear n1
    go_wp2_with fail
    obtain ⟨w2, hw2⟩ : ∃ w2, w2 = w1.alloc (.cells (madeCells #[.int .i64 0] n) 3) := ⟨_, rfl⟩
    rw [← hw2]
    have r2 : w2.rowIs w1.heap.size 3 n (fun _ => .int .i64 0) := by rw [hw2]; exact World.rowIs_made _ _ _ _
    have k2 : New w1 w2 := by rw [hw2]; exact (New.refl w1).alloc _
    have z2 : w2.heap.size = w1.heap.size + 1 := by rw [hw2]; simp
    have R2 := Lib.hid r2; clear r2
    have K2 := Lib.hid k2; clear k2 hw2 hmk
    refine (weGo_far _ _ _ _ l _ _ _ xs (HA.out.new (N1.out.trans K2.out)) (HX.out.new (N1.out.trans K2.out)) HC.out.1 HC.out.2).mono ?_
    rintro e w3 ⟨ga, gc, ea, en, ec, sa, sc, ra, rc, rfl, _, _, ⟨hs, is⟩, _, n3⟩
    have IS := Lib.hid is; clear is
    have R3 := Lib.hid (R2.out.of_block (n3.block _ R2.out.lt))
    have z3 := n3.size
    have N3 := Lib.hid (K2.out.trans n3); clear n3 R2 K2
    go_wp2_with ((with_reducible (show wpList _ _ _ ({ dst := _, op := .field _ _ _, type := _, pos := _, after := _, guard := _ } :: _) _ _)); go_must (refine wpList_value_as rfl (.slice sa m sc) (by kernel_rfl) ?_))
    go_loopw [23] (fun t wr => ∃ (k : Nat) (f : Nat → Value), k ≤ m ∧ t = .int .i64 k ∧ wr.rowIs w1.heap.size 3 n f ∧ (∀ i, i < n → f i = .int .i64 (soK l xs k i)) ∧ Chg (fun b => b = w1.heap.size) w3 wr) (fun t _ => m - (intOf t).toNat)
    case atStart => exact ⟨0, _, Nat.zero_le _, rfl, R3.out, fun _ _ => rfl, Chg.refl _ _⟩
    case round =>
      obtain ⟨k, f, hk, rfl, hrow, hf, hch⟩ := hrel
      have RW := Lib.hid hrow; clear hrow
      have HF := Lib.hid hf; clear hf
      have CH := Lib.hid hch; clear hch
      by_cases hlt : k < m
      · have KX := Lib.hid (show k < xs.length by have := HM.out; omega)
        obtain ⟨bq, rfl, hcl, hbs⟩ := (IS.out wr (fun b h1 h2 => CH.out.block b h2 (fun e => by omega))).2 k hlt
        have QS := Lib.hid (show ∀ wr' : World, Chg (fun b => b = w1.heap.size) w3 wr' → Ints wr' (hs k).1 (hs k).2.1 (hs k).2.2 (spillsAt l xs k) from fun wr' ch => by
          obtain ⟨_, _, _, h⟩ := (IS.out wr' (fun b h1 h2 => ch.block b h2 (fun e => by omega))).2 k hlt
          exact h)
        obtain ⟨hk', hhk⟩ : ∃ x, x = hs k := ⟨_, rfl⟩
        rw [← hhk] at hcl hbs QS
        obtain ⟨qa, qm, qc⟩ := hk'
        have hqm : n = qm := by have := hbs.1; rw [spillsAt_length] at this; rw [HN.out]; exact this.symm
        subst hqm
        have hcl2 : wr.cell? ⟨bq, k, none⟩ = some (.slice qa n qc) := by rw [Nat.zero_add] at hcl; exact hcl
        clear hbs hhk hcl
        go_wp2_with fail
        go_loopw [29] (fun t wr => ∃ (j : Nat) (f : Nat → Value), j ≤ n ∧ t = .int .i64 j ∧ wr.rowIs w1.heap.size 3 n f ∧ (∀ i, i < n → f i = .int .i64 (so2 l xs k j i)) ∧ Chg (fun b => b = w1.heap.size) w3 wr) (fun t _ => n - (intOf t).toNat)
        case atStart => exact ⟨0, f, Nat.zero_le _, rfl, RW.out, fun i hi => by rw [HF.out i hi]; unfold so2; rw [if_neg (by omega)], CH.out⟩
        case round =>
          obtain ⟨j, f2, hj, rfl, hrow, hf, hch2⟩ := hrel
          have RV := Lib.hid hrow; clear hrow
          have HV := Lib.hid hf; clear hf
          have CV := Lib.hid hch2; clear hch2
          by_cases jlt : j < n
          · obtain ⟨b, o, rfl, hcl2, _⟩ := (QS.out wr CV.out).at jlt
            have jl : j < l.length := by have := HN.out; omega
            rw [spillsAt_get _ _ _ _ jl] at hcl2
            have s1 := soK_bd HC.out.1 HC.out.2 k j (by have := KX.out; omega) jl
            have s2 := spAt_bd HC.out.1 HC.out.2 k j KX.out jl
            have e2 : so2 l xs k j j = soK l xs k j := by unfold so2; rw [if_neg (by omega)]
            have hd : wr.cell? ⟨w1.heap.size, j, none⟩ = some (.int .i64 (soK l xs k j)) := by rw [RV.out.cell jlt, HV.out j jlt, e2]
            have hfz := RV.out.frozen j
            clear e2
            obtain ⟨z, hz⟩ : ∃ z, z = soK l xs k j := ⟨_, rfl⟩
            obtain ⟨y, hy⟩ : ∃ y, y = spAt l xs k j := ⟨_, rfl⟩
            rw [← hz] at s1 hd
            rw [← hy] at s2 hcl2
            have ZY := Lib.hid (show z + y = soK l xs (k + 1) j by rw [hz, hy]; rfl)
            clear hz hy
            go_wp2_with fail
            go_roundw
            case rel =>
              refine ⟨j + 1, _, by omega, by go_num, RV.out.set j _, fun i hi => ?_, CV.out.trans (Chg.setCell (p := ⟨w1.heap.size, j, none⟩) _)⟩
              by_cases e : i = j
              · subst e
                simp only [if_pos]
                unfold so2
                rw [if_pos (by omega), ← ZY.out]
              · simp only [if_neg e]
                rw [HV.out i hi]
                unfold so2
                by_cases q : i < j
                · rw [if_pos q, if_pos (by omega)]
                · rw [if_neg q, if_neg (by omega)]
            case measure => simp [intOf]; omega
          · have ejn : j = n := by omega
            subst ejn
            go_wp2_with fail
            go_roundw
            case rel =>
              refine ⟨k + 1, f2, by omega, by go_num, RV.out, fun i hi => ?_, CV.out⟩
              rw [HV.out i hi]
              unfold so2
              rw [if_pos hi]
            case measure => simp [intOf]; omega
      · obtain rfl : k = m := by omega
        go_wp2_with fail
        go_ret2
        rw [HR.out.1, HR.out.2]
        exact ⟨_, _, _, rfl, ⟨by rw [List.length_map, List.length_range], Nat.le_refl _, by omega, .inr ⟨w1.heap.size, f, rfl, N1.out.size, RW.out.lt, RW.out, fun j hj => by rw [HF.out j hj]; simp [hj]⟩⟩, N1.out.trans (Chg.new N3.out CH.out (fun i hi => by omega))⟩
  · have hf := bool_no h
    have HR := Lib.hid (show askB l xs = false ∧ soM l xs = [] from ⟨hf, by unfold soM; rw [hf]; rfl⟩)
    go_enter Try.func12, Try.ntmps12
    go_wp2_with fail
    refine (weAsked_any _ _ _ _ l _ _ _ xs HA.out HX.out).mono ?_
    rintro e w1 ⟨rfl, n1⟩
    have N1 := Lib.hid n1; clear n1
    go_wp2_with fail
    go_ret2
    rw [HR.out.1, HR.out.2]
    exact ⟨_, _, _, rfl, Own.nil _ _ _, N1.out⟩

set_option maxRecDepth 100000 in
set_option maxHeartbeats 4000000 in
set_option linter.unusedSimpArgs false in
theorem iSpillsOf_any (w : World) (aa : Option Addr) (n ca : Nat) (l : List (Int × Int × Int)) (ab : Option Addr) (m cb : Nat) (xs : List Int) (ha : Basins w aa n ca l) (hx : Ints w ab m cb xs) :
    Calls Try.prog 11 #[.slice aa n ca, .slice ab m cb] w fun e w' => ∃ oa on oc, e = .returned (.tuple #[.slice oa on oc, .bool (askB l xs)]) ∧ Own w' w.heap.size w'.heap.size oa on oc (soM l xs) ∧ New w w' := by
  have HN := Lib.hid ha.1
  have HM := Lib.hid hx.1
  have hnn := ha.2.2.1
  have hmm := hx.2.2.1
  have HA := Lib.hid ha; clear ha
  have HX := Lib.hid hx; clear hx
  go_enter Try.func11, Try.ntmps11
  go_wp2_with fail
  refine (ticksOf_any _ _ _ _ l _ _ _ xs HA.out HX.out).mono ?_
  rintro e w1 (⟨h, B, cs, rfl, hcb, hta, hlo, n1⟩ | ⟨hf, rfl, n1⟩)
  · have HR := Lib.hid (show askB l xs = true ∧ soM l xs = (List.range n).map (soK l xs m) from ⟨h, by unfold soM; rw [if_pos h, HM.out, HN.out]⟩)
    have HC := Lib.hid (askB_iff.1 h); clear h
    have m60 : m ≤ 60 := by have := HC.out.2.1; have := HM.out; omega
    have n6 : n ≤ 6 := by have := HC.out.1.2.1; have := HN.out; omega
    have N1 := Lib.hid n1; clear n1
    have CB0 := Lib.hid hcb
    have zB := Lib.hid hcb.lt; clear hcb
    have TA := Lib.hid hta; clear hta
    have hmk := run_make_row' (P := Try.prog) 25 3 (.int .i64 0) 8 Try.underlying25 Try.infoInt rfl .i64 .i64 n (by omega) (by omega)
    go_wp2_with fail
    clear hmk
    go_loopw [25] (fun t wr => ∃ (k : Nat) (f : Nat → Value), k ≤ m ∧ t = .int .i64 k ∧ wr.rowIs w1.heap.size 3 n f ∧ (∀ i, i < n → f i = .int .i64 (soK l xs k i)) ∧ WB wr B cs 75 ∧ New w1 wr) (fun t _ => m - (intOf t).toNat)
    case atStart => exact ⟨0, _, Nat.zero_le _, rfl, World.rowIs_made _ _ _ _, fun _ _ => rfl, CB0.out.new (by repeat (first | with_reducible exact New.refl _ | with_reducible assumption | refine New.drewN ?_ _ | refine New.drew ?_ | refine New.alloc ?_ _ | refine New.setCell ?_ (by first | omega | (simp; omega) | (simp; done)) _ | (refine New.trans ?_ (by assumption)))), (New.refl w1).alloc _⟩
    case round =>
      obtain ⟨k, f, hk, rfl, hrow, hf, hcb, hnew⟩ := hrel
      obtain ⟨wq, rfl⟩ : ∃ u : World, u = wr := ⟨_, rfl⟩
      have RW := Lib.hid hrow; clear hrow
      have HF := Lib.hid hf; clear hf
      have CB := Lib.hid hcb; clear hcb
      have NW := Lib.hid hnew; clear hnew
      by_cases hlt : k < m
      · have KX := Lib.hid (show k < xs.length by have := HM.out; omega)
        go_upto_region 8 with (first | (refine wpList_load_blk rfl 75 (.tmp 27) rfl B (k * 26) rfl _ (tkAt l xs k) 75 CB.out (TA.out.at' k (by omega)) _ Try.underlying75 rfl (by kernel_rfl) ?_) | ((with_reducible (show wpList _ _ _ ({ dst := none, op := .store _ _ _, type := _, pos := _, after := _, guard := _ } :: _) _ _)); go_must (refine wpList_store_blk rfl 75 (.tmp 10) (.tmp 28) rfl wq.heap.size 0 (tkC (fun _ => (0, 0, 0)) 0 (fun _ => 0) 0) (tkAt l xs k) 75 rfl rfl (heap_alloc_new _ _) (by simp [tkC_length, tkAt_length]) (by kernel_rfl) (tkC_one _ _ _ _) ?_); intro w5 hb_ hc_; have HB5 := Lib.hid (WB.eqv hb_.out (splice_zero _ _ rfl)); have N5 := Lib.hid (Chg.new (w0 := wq) (by repeat (first | with_reducible exact New.refl _ | with_reducible assumption | refine New.drewN ?_ _ | refine New.drew ?_ | refine New.alloc ?_ _ | refine New.setCell ?_ (by first | omega | (simp; omega) | (simp; done)) _ | (refine New.trans ?_ (by assumption)))) hc_ (fun i hi => by omega)); clear hb_ hc_))
        have R5 := Lib.hid (RW.out.of_block (N5.out.block _ RW.out.lt))
        have CB5 := Lib.hid (CB.out.new N5.out)
        have N6 := Lib.hid (NW.out.trans N5.out)
        have bne := Lib.hid (show w1.heap.size ≠ wq.heap.size from Nat.ne_of_lt RW.out.lt)
        obtain ⟨bt, hbt⟩ : ∃ bt, bt = wq.heap.size := ⟨_, rfl⟩
        rw [← hbt] at HB5 bne
        rw [← hbt]
        clear hbt N5
        go_wp2_with fail
        go_loopw [31] (fun t wr => ∃ (j : Nat) (f : Nat → Value), j ≤ n ∧ t = .int .i64 j ∧ wr.rowIs w1.heap.size 3 n f ∧ (∀ i, i < n → f i = .int .i64 (so2 l xs k j i)) ∧ WB wr bt (tkAt l xs k) 75 ∧ WB wr B cs 75 ∧ New w1 wr) (fun t _ => n - (intOf t).toNat)
        case atStart => exact ⟨0, f, Nat.zero_le _, rfl, R5.out, fun i hi => by rw [HF.out i hi]; unfold so2; rw [if_neg (by omega)], HB5.out, CB5.out, N6.out⟩
        case round =>
          obtain ⟨j, f2, hj, rfl, hrow, hf, hbt2, hcb2, hn2⟩ := hrel
          have RV := Lib.hid hrow; clear hrow
          have HV := Lib.hid hf; clear hf
          have BT := Lib.hid hbt2; clear hbt2
          have CV := Lib.hid hcb2; clear hcb2
          have NV := Lib.hid hn2; clear hn2
          by_cases jlt : j < n
          · have jl : j < l.length := by have := HN.out; omega
            have s1 := soK_bd HC.out.1 HC.out.2 k j (by have := KX.out; omega) jl
            have s2 := spAt_bd HC.out.1 HC.out.2 k j KX.out jl
            have e2 : so2 l xs k j j = soK l xs k j := by unfold so2; rw [if_neg (by omega)]
            have hd : wr.cell? ⟨w1.heap.size, j, none⟩ = some (.int .i64 (soK l xs k j)) := by rw [RV.out.cell jlt, HV.out j jlt, e2]
            have hfz := RV.out.frozen j
            clear e2
            obtain ⟨z, hz⟩ : ∃ z, z = soK l xs k j := ⟨_, rfl⟩
            rw [← hz] at s1 hd
            have ZY := Lib.hid (show z + spAt l xs k j = soK l xs (k + 1) j by rw [hz]; rfl)
            clear hz
            have j0 : (0 : Int) ≤ (j : Int) := by omega
            have j1 : (j : Int) < (n : Int) := by omega
            go_wp2_with fail
            refine wp_region_any (by kernel_rfl) ?_
            (change wpAny _ _ _ _ _ _ _ (World.drew _))
            have BTX : WB wr.drew bt (tkAt l xs k) 75 := BT.out
            refine wpAny_take (i := 0) (oi := ⟨some 34, _, _, _, _, _⟩) (v := ?_) rfl (by kernel_rfl) (by kernel_rfl) (by kernel_rfl) (fun _ _ _ h => h) (Or.inl ⟨by rfl, ?_⟩) ?_; rotate_left; (· (intro w_; go_simp; (try with_reducible rfl))); (try simp only [Act.put, List.setIfInBounds_toArray, List.set_cons_zero, List.set_cons_succ])
            refine wpAny_take (i := 1) (oi := ⟨some 35, _, _, _, _, _⟩) (v := ?_) rfl (by kernel_rfl) (by kernel_rfl) (by kernel_rfl) (fun _ _ _ h => h) (Or.inl ⟨by rfl, ?_⟩) ?_; rotate_left; (· (intro w_; go_simp; (try with_reducible rfl))); (try simp only [Act.put, List.setIfInBounds_toArray, List.set_cons_zero, List.set_cons_succ])
            refine wpAny_take (i := 2) (oi := ⟨some 36, _, _, _, _, _⟩) (v := ?_) rfl (by kernel_rfl) (by kernel_rfl) (by kernel_rfl) (fun _ _ _ h => h) (Or.inl ⟨by rfl, ?_⟩) ?_; rotate_left; (· (intro w_; go_simp; (try with_reducible rfl))); (try simp only [Act.put, List.setIfInBounds_toArray, List.set_cons_zero, List.set_cons_succ])
            refine wpAny_take (i := 5) (oi := ⟨some 39, _, _, _, _, _⟩) (v := ?_) rfl (by kernel_rfl) (by kernel_rfl) (by kernel_rfl) (fun _ _ _ h => h) (Or.inl ⟨by rfl, ?_⟩) ?_; rotate_left; (· (intro w_; go_simp; (try with_reducible rfl))); (try simp only [Act.put, List.setIfInBounds_toArray, List.set_cons_zero, List.set_cons_succ])
            refine wpAny_ready (rs := [3, 4]) (by kernel_rfl) (by simp) ?_
            refine (AllReady.cons (o := ⟨some 37, _, _, _, _, _⟩) rfl (fun K hK => ?_) (AllReady.cons (o := ⟨some 38, _, _, _, _, _⟩) rfl (fun K hK => ?_) AllReady.nil))
            · skip
              go_simp
              refine hK _ _ ?_; clear hK K; (try simp only [Act.put, List.setIfInBounds_toArray, List.set_cons_zero, List.set_cons_succ])
              refine wpAny_ready (rs := [4]) (by kernel_rfl) (by simp) ?_
              refine (AllReady.cons (o := ⟨some 38, _, _, _, _, _⟩) rfl (fun K hK => ?_) AllReady.nil)
              · skip
                rw [if_pos (by rfl)]
                refine wp_load_mid _ _ rfl bt 0 rfl (tkAt l xs k) _ (BTX.range 0 (fun j v hv => by rw [Nat.zero_add]; exact hv)) Try.underlying75 rfl (by kernel_rfl) ?_
                refine hK _ _ ?_; clear hK K; (try simp only [Act.put, List.setIfInBounds_toArray, List.set_cons_zero, List.set_cons_succ])
                refine wpAny_ready (rs := [6]) (by kernel_rfl) (by simp) ?_
                refine (AllReady.cons (o := ⟨some 40, _, _, _, _, _⟩) rfl (fun K hK => ?_) AllReady.nil)
                · skip
                  go_simp
                  refine (spilt_tk _ l xs k j HC.out.1 HC.out.2 KX.out jl).mono ?_
                  rintro e w7 ⟨rfl, n7⟩
                  refine hK _ _ ?_; clear hK K; (try simp only [Act.put, List.setIfInBounds_toArray, List.set_cons_zero, List.set_cons_succ])
                  have n7' : New wr w7 := New.trans (by repeat (first | with_reducible exact New.refl _ | with_reducible assumption | refine New.drewN ?_ _ | refine New.drew ?_ | refine New.alloc ?_ _ | refine New.setCell ?_ (by first | omega | (simp; omega) | (simp; done)) _ | (refine New.trans ?_ (by assumption)))) n7
                  clear n7
                  have R7 := RV.out.of_block (n7'.block _ RV.out.lt)
                  have BT7 := BT.out.new n7'
                  have CV7 := CV.out.new n7'
                  have hd7 := n7'.cell hd
                  have hfz7 := R7.frozen j
                  refine wpAny_take (i := 7) (oi := ⟨some 41, _, _, _, _, _⟩) (v := ?_) rfl (by kernel_rfl) (by kernel_rfl) (by kernel_rfl) (fun _ _ _ h => h) (Or.inl ⟨by rfl, ?_⟩) ?_; rotate_left; (· (intro w_; go_simp; (try with_reducible rfl))); (try simp only [Act.put, List.setIfInBounds_toArray, List.set_cons_zero, List.set_cons_succ])
                  refine wpAny_take (i := 8) (oi := ⟨some 42, _, _, _, _, _⟩) (v := ?_) rfl (by kernel_rfl) (by kernel_rfl) (by kernel_rfl) (fun _ _ _ h => h) (Or.inl ⟨by rfl, ?_⟩) ?_; rotate_left; (· (intro w_; go_simp; (try with_reducible rfl))); (try simp only [Act.put, List.setIfInBounds_toArray, List.set_cons_zero, List.set_cons_succ])
                  refine wpAny_ready (rs := [9]) (by kernel_rfl) (by simp) ?_
                  refine AllReady.cons (o := ⟨none, _, _, _, _, _⟩) rfl (fun K hK => ?_) AllReady.nil
                  go_simp
                  refine hK _ _ ?_; clear hK K; (try simp only [Act.put, List.setIfInBounds_toArray, List.set_cons_zero, List.set_cons_succ])
                  refine wpAny_done (by kernel_rfl) ?_ _
                  go_wp2_with fail
                  go_roundw
                  case rel =>
                    refine ⟨j + 1, _, by omega, by go_num, R7.set j _, fun i hi => ?_, BT7.apart (by simpa using bne.out) _, CV7.apart (by have := zB.out; simp; omega) _, (NV.out.trans n7').setCell (Nat.le_refl _) _⟩
                    by_cases e : i = j
                    · subst e
                      simp only [if_pos]
                      unfold so2
                      rw [if_pos (by omega), ← ZY.out]
                    · simp only [if_neg e]
                      rw [HV.out i hi]
                      unfold so2
                      by_cases q : i < j
                      · rw [if_pos q, if_pos (by omega)]
                      · rw [if_neg q, if_neg (by omega)]
                  case measure => simp [intOf]; omega
            · skip
              rw [if_pos (by rfl)]
              refine wp_load_mid _ _ rfl bt 0 rfl (tkAt l xs k) _ (BTX.range 0 (fun j v hv => by rw [Nat.zero_add]; exact hv)) Try.underlying75 rfl (by kernel_rfl) ?_
              refine hK _ _ ?_; clear hK K; (try simp only [Act.put, List.setIfInBounds_toArray, List.set_cons_zero, List.set_cons_succ])
              refine wpAny_ready (rs := [3, 6]) (by kernel_rfl) (by simp) ?_
              refine (AllReady.cons (o := ⟨some 37, _, _, _, _, _⟩) rfl (fun K hK => ?_) (AllReady.cons (o := ⟨some 40, _, _, _, _, _⟩) rfl (fun K hK => ?_) AllReady.nil))
              · skip
                go_simp
                refine hK _ _ ?_; clear hK K; (try simp only [Act.put, List.setIfInBounds_toArray, List.set_cons_zero, List.set_cons_succ])
                refine wpAny_ready (rs := [6]) (by kernel_rfl) (by simp) ?_
                refine (AllReady.cons (o := ⟨some 40, _, _, _, _, _⟩) rfl (fun K hK => ?_) AllReady.nil)
                · skip
                  go_simp
                  refine (spilt_tk _ l xs k j HC.out.1 HC.out.2 KX.out jl).mono ?_
                  rintro e w7 ⟨rfl, n7⟩
                  refine hK _ _ ?_; clear hK K; (try simp only [Act.put, List.setIfInBounds_toArray, List.set_cons_zero, List.set_cons_succ])
                  have n7' : New wr w7 := New.trans (by repeat (first | with_reducible exact New.refl _ | with_reducible assumption | refine New.drewN ?_ _ | refine New.drew ?_ | refine New.alloc ?_ _ | refine New.setCell ?_ (by first | omega | (simp; omega) | (simp; done)) _ | (refine New.trans ?_ (by assumption)))) n7
                  clear n7
                  have R7 := RV.out.of_block (n7'.block _ RV.out.lt)
                  have BT7 := BT.out.new n7'
                  have CV7 := CV.out.new n7'
                  have hd7 := n7'.cell hd
                  have hfz7 := R7.frozen j
                  refine wpAny_take (i := 7) (oi := ⟨some 41, _, _, _, _, _⟩) (v := ?_) rfl (by kernel_rfl) (by kernel_rfl) (by kernel_rfl) (fun _ _ _ h => h) (Or.inl ⟨by rfl, ?_⟩) ?_; rotate_left; (· (intro w_; go_simp; (try with_reducible rfl))); (try simp only [Act.put, List.setIfInBounds_toArray, List.set_cons_zero, List.set_cons_succ])
                  refine wpAny_take (i := 8) (oi := ⟨some 42, _, _, _, _, _⟩) (v := ?_) rfl (by kernel_rfl) (by kernel_rfl) (by kernel_rfl) (fun _ _ _ h => h) (Or.inl ⟨by rfl, ?_⟩) ?_; rotate_left; (· (intro w_; go_simp; (try with_reducible rfl))); (try simp only [Act.put, List.setIfInBounds_toArray, List.set_cons_zero, List.set_cons_succ])
                  refine wpAny_ready (rs := [9]) (by kernel_rfl) (by simp) ?_
                  refine AllReady.cons (o := ⟨none, _, _, _, _, _⟩) rfl (fun K hK => ?_) AllReady.nil
                  go_simp
                  refine hK _ _ ?_; clear hK K; (try simp only [Act.put, List.setIfInBounds_toArray, List.set_cons_zero, List.set_cons_succ])
                  refine wpAny_done (by kernel_rfl) ?_ _
                  go_wp2_with fail
                  go_roundw
                  case rel =>
                    refine ⟨j + 1, _, by omega, by go_num, R7.set j _, fun i hi => ?_, BT7.apart (by simpa using bne.out) _, CV7.apart (by have := zB.out; simp; omega) _, (NV.out.trans n7').setCell (Nat.le_refl _) _⟩
                    by_cases e : i = j
                    · subst e
                      simp only [if_pos]
                      unfold so2
                      rw [if_pos (by omega), ← ZY.out]
                    · simp only [if_neg e]
                      rw [HV.out i hi]
                      unfold so2
                      by_cases q : i < j
                      · rw [if_pos q, if_pos (by omega)]
                      · rw [if_neg q, if_neg (by omega)]
                  case measure => simp [intOf]; omega
              · skip
                go_simp
                refine (spilt_tk _ l xs k j HC.out.1 HC.out.2 KX.out jl).mono ?_
                rintro e w7 ⟨rfl, n7⟩
                refine hK _ _ ?_; clear hK K; (try simp only [Act.put, List.setIfInBounds_toArray, List.set_cons_zero, List.set_cons_succ])
                have n7' : New wr w7 := New.trans (by repeat (first | with_reducible exact New.refl _ | with_reducible assumption | refine New.drewN ?_ _ | refine New.drew ?_ | refine New.alloc ?_ _ | refine New.setCell ?_ (by first | omega | (simp; omega) | (simp; done)) _ | (refine New.trans ?_ (by assumption)))) n7
                clear n7
                have R7 := RV.out.of_block (n7'.block _ RV.out.lt)
                have BT7 := BT.out.new n7'
                have CV7 := CV.out.new n7'
                have hd7 := n7'.cell hd
                have hfz7 := R7.frozen j
                refine wpAny_ready (rs := [3]) (by kernel_rfl) (by simp) ?_
                refine (AllReady.cons (o := ⟨some 37, _, _, _, _, _⟩) rfl (fun K hK => ?_) AllReady.nil)
                · skip
                  go_simp
                  refine hK _ _ ?_; clear hK K; (try simp only [Act.put, List.setIfInBounds_toArray, List.set_cons_zero, List.set_cons_succ])
                  refine wpAny_take (i := 7) (oi := ⟨some 41, _, _, _, _, _⟩) (v := ?_) rfl (by kernel_rfl) (by kernel_rfl) (by kernel_rfl) (fun _ _ _ h => h) (Or.inl ⟨by rfl, ?_⟩) ?_; rotate_left; (· (intro w_; go_simp; (try with_reducible rfl))); (try simp only [Act.put, List.setIfInBounds_toArray, List.set_cons_zero, List.set_cons_succ])
                  refine wpAny_take (i := 8) (oi := ⟨some 42, _, _, _, _, _⟩) (v := ?_) rfl (by kernel_rfl) (by kernel_rfl) (by kernel_rfl) (fun _ _ _ h => h) (Or.inl ⟨by rfl, ?_⟩) ?_; rotate_left; (· (intro w_; go_simp; (try with_reducible rfl))); (try simp only [Act.put, List.setIfInBounds_toArray, List.set_cons_zero, List.set_cons_succ])
                  refine wpAny_ready (rs := [9]) (by kernel_rfl) (by simp) ?_
                  refine AllReady.cons (o := ⟨none, _, _, _, _, _⟩) rfl (fun K hK => ?_) AllReady.nil
                  go_simp
                  refine hK _ _ ?_; clear hK K; (try simp only [Act.put, List.setIfInBounds_toArray, List.set_cons_zero, List.set_cons_succ])
                  refine wpAny_done (by kernel_rfl) ?_ _
                  go_wp2_with fail
                  go_roundw
                  case rel =>
                    refine ⟨j + 1, _, by omega, by go_num, R7.set j _, fun i hi => ?_, BT7.apart (by simpa using bne.out) _, CV7.apart (by have := zB.out; simp; omega) _, (NV.out.trans n7').setCell (Nat.le_refl _) _⟩
                    by_cases e : i = j
                    · subst e
                      simp only [if_pos]
                      unfold so2
                      rw [if_pos (by omega), ← ZY.out]
                    · simp only [if_neg e]
                      rw [HV.out i hi]
                      unfold so2
                      by_cases q : i < j
                      · rw [if_pos q, if_pos (by omega)]
                      · rw [if_neg q, if_neg (by omega)]
                  case measure => simp [intOf]; omega
          · have ejn : j = n := by omega
            subst ejn
            go_wp2_with fail
            go_roundw
            case rel =>
              refine ⟨k + 1, f2, by omega, by go_num, RV.out, fun i hi => ?_, CV.out, NV.out⟩
              rw [HV.out i hi]
              unfold so2
              rw [if_pos hi]
            case measure => simp [intOf]; omega
      · obtain rfl : k = m := by omega
        go_wp2_with fail
        go_ret2
        rw [HR.out.1, HR.out.2]
        exact ⟨_, _, _, rfl, ⟨by rw [List.length_map, List.length_range], Nat.le_refl _, by omega, .inr ⟨w1.heap.size, f, rfl, N1.out.size, RW.out.lt, RW.out, fun j hj => by rw [HF.out j hj]; simp [hj]⟩⟩, N1.out.trans NW.out⟩
  · have HR := Lib.hid (show askB l xs = false ∧ soM l xs = [] from ⟨hf, by unfold soM; rw [hf]; rfl⟩)
    go_wp2_with fail
    go_ret2
    rw [HR.out.1, HR.out.2]
    exact ⟨_, _, _, rfl, Own.nil _ _ _, n1⟩

end Go.Proofs.Ytchnnbkaiagpgaa
