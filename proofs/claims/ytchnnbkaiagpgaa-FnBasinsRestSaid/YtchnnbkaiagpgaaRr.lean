/- RunRow and what is asked of it: the model's and the program's. -/
import Derived.Test.YtchnnbkaiagpgaaTicks5
import Derived.Test.YtchnnbkaiagpgaaWeGo
namespace Go.Proofs.Ytchnnbkaiagpgaa
open Go.RowKit Go.Conc

def runM (l : List (Int × Int × Int)) (xs : List Int) : List Int := if askB l xs then givesTo l xs xs.length else []
theorem runM_small (l : List (Int × Int × Int)) (xs : List Int) : (runM l xs).length ≤ 1048576 := by
  unfold runM
  split
  · rename_i h
    have := (askB_iff.1 h).2.1
    rw [givesTo_length]; omega
  · simp

set_option maxRecDepth 100000 in
theorem sRunRow_any (w : World) (aa : Option Addr) (n ca : Nat) (l : List (Int × Int × Int)) (ab : Option Addr) (m cb : Nat) (xs : List Int) (ha : Basins w aa n ca l) (hx : Ints w ab m cb xs) :
    Calls Try.prog 8 #[.slice aa n ca, .slice ab m cb] w fun e w' => ∃ oa on oc, e = .returned (.tuple #[.slice oa on oc, .bool (askB l xs)]) ∧ Own w' w.heap.size w'.heap.size oa on oc (runM l xs) ∧ New w w' := by
  have HM := Lib.hid hx.1
  have HA := Lib.hid ha; clear ha
  have HX := Lib.hid hx; clear hx
  by_cases h : askB l xs = true
  · have HR := Lib.hid (show askB l xs = true ∧ runM l xs = givesTo l xs xs.length from ⟨h, by unfold runM; rw [if_pos h]⟩)
    have HC := Lib.hid (askB_iff.1 h)
    go_enter Try.func8, Try.ntmps8
    go_wp2_with fail
    refine (weAsked_any _ _ _ _ l _ _ _ xs HA.out HX.out).mono ?_
    rintro e w1 ⟨rfl, n1⟩
    have N1 := Lib.hid n1; clear n1
    go_wp2_with fail
    refine (weGo_any _ _ _ _ l _ _ _ xs (HA.out.new N1.out) (HX.out.new N1.out) HC.out.1 HC.out.2).mono ?_
    rintro e w2 ⟨ga, gc, ea, en, ec, sa, sc, ra, rc, rfl, o1, _, _, _, n2⟩
    go_wp2_with ((with_reducible (show wpList _ _ _ ({ dst := _, op := .field _ _ _, type := _, pos := _, after := _, guard := _ } :: _) _ _)); go_must (refine wpList_value_as rfl (.slice ga m gc) (by kernel_rfl) ?_))
    go_ret2
    rw [HR.out.1, HR.out.2, ← HM.out]
    exact ⟨_, _, _, rfl, o1.mono N1.out.size (Nat.le_refl _), N1.out.trans n2⟩
  · have hf := bool_no h
    have HR := Lib.hid (show askB l xs = false ∧ runM l xs = [] from ⟨hf, by unfold runM; rw [hf]; rfl⟩)
    go_enter Try.func8, Try.ntmps8
    go_wp2_with fail
    refine (weAsked_any _ _ _ _ l _ _ _ xs HA.out HX.out).mono ?_
    rintro e w1 ⟨rfl, n1⟩
    have N1 := Lib.hid n1; clear n1
    go_wp2_with fail
    go_ret2
    rw [HR.out.1, HR.out.2]
    exact ⟨_, _, _, rfl, Own.nil _ _ _, N1.out⟩

set_option maxRecDepth 100000 in
set_option maxHeartbeats 2000000 in
theorem iRunRow_any (w : World) (aa : Option Addr) (n ca : Nat) (l : List (Int × Int × Int)) (ab : Option Addr) (m cb : Nat) (xs : List Int) (ha : Basins w aa n ca l) (hx : Ints w ab m cb xs) :
    Calls Try.prog 7 #[.slice aa n ca, .slice ab m cb] w fun e w' => ∃ oa on oc, e = .returned (.tuple #[.slice oa on oc, .bool (askB l xs)]) ∧ Own w' w.heap.size w'.heap.size oa on oc (runM l xs) ∧ New w w' := by
  have HM := Lib.hid hx.1
  have hmm := hx.2.2.1
  have HA := Lib.hid ha; clear ha
  have HX := Lib.hid hx; clear hx
  go_enter Try.func7, Try.ntmps7
  go_wp2_with fail
  refine (ticksOf_any _ _ _ _ l _ _ _ xs HA.out HX.out).mono ?_
  rintro e w1 (⟨h, B, cs, rfl, hcb, hta, hlo, n1⟩ | ⟨hf, rfl, n1⟩)
  · have HR := Lib.hid (show askB l xs = true ∧ runM l xs = givesTo l xs xs.length from ⟨h, by unfold runM; rw [if_pos h]⟩)
    have HC := Lib.hid (askB_iff.1 h); clear h
    have m60 : m ≤ 60 := by have := HC.out.2.1; have := HM.out; omega
    have N1 := Lib.hid n1; clear n1
    have CB0 := Lib.hid hcb
    have zB := Lib.hid hcb.lt; clear hcb
    have TA := Lib.hid hta; clear hta
    have hmk := run_make_row' (P := Try.prog) 25 3 (.int .i64 0) 8 Try.underlying25 Try.infoInt rfl .i64 .i64 m (by omega) (by omega)
    go_wp2_with fail
    go_loopw [24] (fun i wr => ∃ (k : Nat) (f : Nat → Value), k ≤ m ∧ i = .int .i64 k ∧ wr.rowIs w1.heap.size 3 m f ∧ (∀ j, j < k → f j = .int .i64 (giveK l xs j)) ∧ (∀ j, ∃ z, f j = .int .i64 z) ∧ WB wr B cs 75 ∧ New w1 wr) (fun i _ => m - (intOf i).toNat)
    case atStart => exact ⟨0, _, Nat.zero_le _, rfl, World.rowIs_made _ _ _ _, fun j hj => absurd hj (by omega), fun _ => ⟨0, rfl⟩, CB0.out.new (by repeat (first | with_reducible exact New.refl _ | with_reducible assumption | refine New.drewN ?_ _ | refine New.drew ?_ | refine New.alloc ?_ _ | refine New.setCell ?_ (by first | omega | (simp; omega) | (simp; done)) _ | (refine New.trans ?_ (by assumption)))), (New.refl w1).alloc _⟩
    case round =>
      obtain ⟨k, f, hk, rfl, hrow, hf, hz, hcb, hnew⟩ := hrel
      have RW := Lib.hid hrow; clear hrow
      have HF := Lib.hid hf; clear hf
      have HZ := Lib.hid hz; clear hz
      have CB := Lib.hid hcb; clear hcb
      have NW := Lib.hid hnew; clear hnew
      by_cases hlt : k < m
      · go_upto_region 8 with (first | (refine wpList_load_blk rfl 75 (.tmp 27) rfl B (k * 26) rfl _ (tkAt l xs k) 75 CB.out (TA.out.at' k (by omega)) _ Try.underlying75 rfl (by kernel_rfl) ?_) | ((with_reducible (show wpList _ _ _ ({ dst := none, op := .store _ _ _, type := _, pos := _, after := _, guard := _ } :: _) _ _)); go_must (refine wpList_store_blk rfl 75 (.tmp 10) (.tmp 28) rfl wr.heap.size 0 (tkC (fun _ => (0, 0, 0)) 0 (fun _ => 0) 0) (tkAt l xs k) 75 rfl rfl (heap_alloc_new _ _) (by simp [tkC_length, tkAt_length]) (by kernel_rfl) (tkC_one _ _ _ _) ?_); intro w5 hb_ hc_; have HB5 := Lib.hid (WB.eqv hb_.out (splice_zero _ _ rfl)); have N5 := Lib.hid (Chg.new (w0 := wr) (by repeat (first | with_reducible exact New.refl _ | with_reducible assumption | refine New.drewN ?_ _ | refine New.drew ?_ | refine New.alloc ?_ _ | refine New.setCell ?_ (by first | omega | (simp; omega) | (simp; done)) _ | (refine New.trans ?_ (by assumption)))) hc_ (fun i hi => by omega)); clear hb_ hc_))
        have q25 : w5.cell? ⟨wr.heap.size, 25, none⟩ = some (.int .i64 (giveK l xs k)) := HB5.out.cell rfl
        have R5 := Lib.hid (RW.out.of_block (N5.out.block _ RW.out.lt))
        have CB5 := Lib.hid (CB.out.new N5.out)
        have zR := Lib.hid RW.out.lt
        obtain ⟨z, ez⟩ := HZ.out k
        have hd : w5.cell? ⟨w1.heap.size, k, none⟩ = some (.int .i64 z) := by rw [R5.out.cell hlt, ez]
        have hfz := R5.out.frozen k
        clear ez
        go_wp2_with fail
        go_roundw
        case rel =>
          refine ⟨k + 1, _, by omega, by go_num, R5.out.set k _, fun j hj => ?_, fun j => ?_, CB5.out.apart (by have := zB.out; simp; omega) _, (NW.out.trans N5.out).setCell (Nat.le_refl _) _⟩
          · by_cases e : j = k
            · simp [e]
            · simp only [e, if_false]; exact HF.out j (by omega)
          · by_cases e : j = k
            · simp [e]
            · simp only [e, if_false]; exact HZ.out j
        case measure => simp [intOf]; omega
      · obtain rfl : k = m := by omega
        go_wp2_with fail
        go_ret2
        rw [HR.out.1, HR.out.2]
        refine ⟨_, _, _, rfl, ⟨by rw [givesTo_length, HM.out], Nat.le_refl _, by omega, .inr ⟨w1.heap.size, f, rfl, N1.out.size, RW.out.lt, RW.out, fun j hj => ?_⟩⟩, N1.out.trans NW.out⟩
        rw [HF.out j hj, givesTo_get _ _ _ _ (by have := HM.out; omega)]
  · have HR := Lib.hid (show askB l xs = false ∧ runM l xs = [] from ⟨hf, by unfold runM; rw [hf]; rfl⟩)
    go_wp2_with fail
    go_ret2
    rw [HR.out.1, HR.out.2]
    exact ⟨_, _, _, rfl, Own.nil _ _ _, n1⟩

/-! ### PeakOut -/
def maxK (G : List Int) : Nat → Int
  | 0 => 0
  | k + 1 => max (maxK G k) (G[k]?.getD 0)
def peakM (l : List (Int × Int × Int)) (xs : List Int) : Int := maxK (runM l xs) (runM l xs).length

set_option maxRecDepth 100000 in
theorem sPeakOut_any (w : World) (aa : Option Addr) (n ca : Nat) (l : List (Int × Int × Int)) (ab : Option Addr) (m cb : Nat) (xs : List Int) (ha : Basins w aa n ca l) (hx : Ints w ab m cb xs) :
    Calls Try.prog 16 #[.slice aa n ca, .slice ab m cb] w fun e w' => e = .returned (.tuple #[.int .i64 (peakM l xs), .bool (askB l xs)]) ∧ New w w' := by
  have HM := Lib.hid hx.1
  have hmm := hx.2.2.1
  have HA := Lib.hid ha; clear ha
  have HX := Lib.hid hx; clear hx
  by_cases h : askB l xs = true
  · have HR := Lib.hid (show askB l xs = true ∧ runM l xs = givesTo l xs m from ⟨h, by unfold runM; rw [if_pos h, HM.out]⟩)
    have HC := Lib.hid (askB_iff.1 h)
    go_enter Try.func16, Try.ntmps16
    go_wp2_with fail
    refine (weAsked_any _ _ _ _ l _ _ _ xs HA.out HX.out).mono ?_
    rintro e w1 ⟨rfl, n1⟩
    have N1 := Lib.hid n1; clear n1
    go_wp2_with fail
    refine (weGo_any _ _ _ _ l _ _ _ xs (HA.out.new N1.out) (HX.out.new N1.out) HC.out.1 HC.out.2).mono ?_
    rintro e w2 ⟨ga, gc, ea, en, ec, sa, sc, ra, rc, rfl, o1, _, _, _, n2⟩
    have IG := Lib.hid o1.ints; clear o1
    have N2 := Lib.hid (N1.out.trans n2); clear n2
    go_wp2_with ((with_reducible (show wpList _ _ _ ({ dst := _, op := .field _ _ _, type := _, pos := _, after := _, guard := _ } :: _) _ _)); go_must (refine wpList_value_as rfl (.slice ga m gc) (by kernel_rfl) ?_))
    go_loopw [6, 18] (fun y i wr => ∃ k : Nat, k ≤ m ∧ i = .int .i64 k ∧ y = .int .i64 (maxK (givesTo l xs m) k) ∧ New w2 wr) (fun _ i _ => m - (intOf i).toNat)
    case atStart => exact ⟨0, Nat.zero_le _, rfl, rfl, New.refl _⟩
    case round =>
      obtain ⟨k, hk, rfl, rfl, hnw⟩ := hrel
      have NW := Lib.hid hnw; clear hnw
      by_cases hlt : k < m
      · obtain ⟨b, o, rfl, hcl, _⟩ := (IG.out.new NW.out).at hlt
        go_wp2_with fail
        refine (l1Most_any _ _ _).mono ?_
        rintro e w9 ⟨rfl, rfl⟩
        go_wp2_with fail
        go_roundw
        case rel => exact ⟨k + 1, by omega, by go_num, rfl, NW.out⟩
        case measure => simp [intOf]; omega
      · obtain rfl : k = m := by omega
        go_wp2_with fail
        go_ret2
        exact ⟨by rw [HR.out.1]; unfold peakM; rw [HR.out.2, givesTo_length]; rfl, N2.out.trans NW.out⟩
  · have hf := bool_no h
    have HR := Lib.hid (show askB l xs = false ∧ runM l xs = [] from ⟨hf, by unfold runM; rw [hf]; rfl⟩)
    go_enter Try.func16, Try.ntmps16
    go_wp2_with fail
    refine (weAsked_any _ _ _ _ l _ _ _ xs HA.out HX.out).mono ?_
    rintro e w1 ⟨rfl, n1⟩
    have N1 := Lib.hid n1; clear n1
    go_wp2_with fail
    go_ret2
    exact ⟨by rw [HR.out.1]; unfold peakM; rw [HR.out.2]; rfl, N1.out⟩

set_option maxRecDepth 100000 in
theorem iPeakOut_any (w : World) (aa : Option Addr) (n ca : Nat) (l : List (Int × Int × Int)) (ab : Option Addr) (m cb : Nat) (xs : List Int) (ha : Basins w aa n ca l) (hx : Ints w ab m cb xs) :
    Calls Try.prog 15 #[.slice aa n ca, .slice ab m cb] w fun e w' => e = .returned (.tuple #[.int .i64 (peakM l xs), .bool (askB l xs)]) ∧ New w w' := by
  have HA := Lib.hid ha; clear ha
  have HX := Lib.hid hx; clear hx
  obtain ⟨G, hG⟩ : ∃ G, G = runM l xs := ⟨_, rfl⟩
  have HG := Lib.hid hG
  have hs := runM_small l xs
  rw [← hG] at hs
  clear hG
  go_enter Try.func15, Try.ntmps15
  go_wp2_with fail
  refine (iRunRow_any _ _ _ _ l _ _ _ xs HA.out HX.out).mono ?_
  rintro e w1 ⟨ga, q, gc, rfl, o1, n1⟩
  rw [← HG.out] at o1
  have hq := o1.1
  have q6 : q ≤ 1048576 := by omega
  have HQ := Lib.hid hq; clear hq hs
  have IG := Lib.hid o1.ints; clear o1
  have N1 := Lib.hid n1; clear n1
  go_wp2_with fail
  go_loopw [8, 19] (fun y i wr => ∃ k : Nat, k ≤ q ∧ i = .int .i64 k ∧ y = .int .i64 (maxK G k) ∧ w1 = wr) (fun _ i _ => q - (intOf i).toNat)
  case atStart => exact ⟨0, Nat.zero_le _, rfl, rfl, rfl⟩
  case round =>
    obtain ⟨k, hk, rfl, rfl, rfl⟩ := hrel
    by_cases hlt : k < q
    · obtain ⟨b, o, rfl, hcl, _⟩ := IG.out.at hlt
      go_wp2_with fail
      all_goals go_roundw
      all_goals first
        | (simp [intOf]; omega)
        | (refine ⟨k + 1, by omega, by go_num, ?_, by first | rfl | trivial⟩
           show Value.int .i64 _ = Value.int .i64 (max (maxK G k) (G[k]?.getD 0))
           congr 1
           omega)
    · obtain rfl : k = q := by omega
      go_wp2_with fail
      go_ret2
      exact ⟨by unfold peakM; rw [← HG.out, ← HQ.out]; rfl, N1.out⟩
end Go.Proofs.Ytchnnbkaiagpgaa
