/- Running totals of flows: the model's and the program's. -/
import Derived.Test.YtchnnbkaiagpgaaWeirS
import Derived.Test.YtchnnbkaiagpgaaRows2b
namespace Go.Proofs.Ytchnnbkaiagpgaa
open Go.RowKit

def totK (xs : List Int) : Nat → Int
  | 0 => 0
  | k + 1 => totK xs k + xs[k]?.getD 0
def totsTo (xs : List Int) (k : Nat) : List Int := (List.range k).map fun t => totK xs (t + 1)
theorem totsTo_length (xs : List Int) (k : Nat) : (totsTo xs k).length = k := by simp [totsTo]
theorem totsTo_succ (xs : List Int) (k : Nat) : totsTo xs (k + 1) = totsTo xs k ++ [totK xs k + xs[k]?.getD 0] := by simp [totsTo, List.range_succ, totK]
theorem totsTo_get (xs : List Int) (k j : Nat) (h : j < k) : (totsTo xs k)[j]?.getD 0 = totK xs j + xs[j]?.getD 0 := by simp [totsTo, h, totK]
theorem totK_bd {xs : List Int} (hx : FlowOk xs) (k : Nat) (hk : k ≤ xs.length) : 0 ≤ totK xs k ∧ totK xs k ≤ 1000 * k := by
  induction k with
  | zero => exact ⟨by simp [totK], by simp [totK]⟩
  | succ k ih =>
    have h1 := ih (by omega)
    have h2 := hx.2 k (by omega)
    unfold totK
    omega
def totM (xs : List Int) : List Int := if flowB xs then totsTo xs xs.length else []
theorem totM_small (xs : List Int) : (totM xs).length ≤ 1048576 := by
  unfold totM
  split
  · rename_i h
    have := (flowB_iff.1 h).1
    rw [totsTo_length]; omega
  · simp

set_option maxRecDepth 100000 in
theorem sRunningTotals_any (w : World) (aa : Option Addr) (n ca : Nat) (xs : List Int) (ha : Ints w aa n ca xs) :
    Calls Try.prog 32 #[.slice aa n ca] w fun e w' => ∃ oa on oc, e = .returned (.tuple #[.slice oa on oc, .bool (flowB xs)]) ∧ Own w' w.heap.size w'.heap.size oa on oc (totM xs) ∧ New w w' := by
  have HN := Lib.hid ha.1
  have HA := Lib.hid ha; clear ha
  by_cases h1 : flowB xs = true
  · have HM := Lib.hid (show totM xs = totsTo xs xs.length by unfold totM; rw [if_pos h1])
    have HC := Lib.hid (flowB_iff.1 h1)
    have hn : n ≤ 60 := by have := HN.out; have := HC.out.1; omega
    have HB := Lib.hid h1
    obtain ⟨i0, hi, hz0, hz1, hz2⟩ := info_parts Try.infoInt
    go_enter Try.func32, Try.ntmps32
    go_wp2_with fail
    refine (weFlows_any _ _ _ _ xs HA.out).mono ?_
    rintro e w1 ⟨rfl, n1⟩
    have N1 := Lib.hid n1; clear n1
    go_wp2
    clear h1
    go_loopw [4, 5, 13] (fun vo y i wr => ∃ k : Nat, k ≤ n ∧ i = .int .i64 k ∧ y = .int .i64 (totK xs k) ∧ New w wr ∧ wr.ownsRow w.heap.size 3 1 vo k ((totsTo xs k).map (Value.int .i64))) (fun _ _ i _ => n - (intOf i).toNat)
    case atStart => exact ⟨0, Nat.zero_le _, rfl, rfl, N1.out, World.ownsRow_nil _ _ _ _⟩
    case round =>
      obtain ⟨k, hk, rfl, rfl, hnw, hro⟩ := hrel
      have NW := Lib.hid hnw; clear hnw
      have RO := Lib.hid hro; clear hro
      by_cases hlt : k < n
      · obtain ⟨b, o, rfl, hcl, _⟩ := (HA.out.new NW.out).at hlt
        have KC := Lib.hid (show k < xs.length by have := HN.out; omega)
        have q0 := totK_bd HC.out k (by have := KC.out; omega)
        have q1 := HC.out.2 k KC.out
        have zb := NW.out.size
        go_wp2_with (at_builtin; (refine wpList_append_lies _ (by rfl) (.tmp 20) (.tmp 22) 25 (by rfl) w.heap.size 3 i0 (.int .i64 0) 1 8 Try.underlying25 hi hz0 hz1 hz2 rfl (by decide) _ k _ (by rfl) (ownsRow_new RO.out (by repeat (first | with_reducible exact New.refl _ | with_reducible assumption | refine New.drewN ?_ _ | refine New.drew ?_ | refine New.alloc ?_ _ | refine New.setCell ?_ (by first | omega | (simp; omega) | (simp; done)) _ | (refine New.trans ?_ (by assumption))))) _ _ _ [.int .i64 (totK xs k + xs[k]?.getD 0)] (by rfl) (by rfl) (World.news_of_block (cs := #[.int .i64 (totK xs k + xs[k]?.getD 0)]) (t := 3) (fr := (0, 0)) (heap_alloc_at (by simp))) (by simp [Value.oneCell']) (by omega) (by unfold maxLen; omega) (by omega) (by first | omega | (simp; omega) | (simp; done)) _ rfl ?_; intro g cap w3 ho hg hb' hlt'; have N3 := Lib.hid (New.grown (NW.out.trans (by repeat (first | with_reducible exact New.refl _ | with_reducible assumption | refine New.drewN ?_ _ | refine New.drew ?_ | refine New.alloc ?_ _ | refine New.setCell ?_ (by first | omega | (simp; omega) | (simp; done)) _ | (refine New.trans ?_ (by assumption))))) (ownsRow_new RO.out (by repeat (first | with_reducible exact New.refl _ | with_reducible assumption | refine New.drewN ?_ _ | refine New.drew ?_ | refine New.alloc ?_ _ | refine New.setCell ?_ (by first | omega | (simp; omega) | (simp; done)) _ | (refine New.trans ?_ (by assumption))))) (Nat.le_refl _) hg); have RO3 := Lib.hid ho; clear ho hg hb' hlt'))
        go_roundw
        case rel =>
          refine ⟨k + 1, by omega, by go_num, rfl, N3.out, ?_⟩
          rw [totsTo_succ, List.map_append]
          exact RO3.out
        case measure => simp [intOf]; omega
      · obtain rfl : k = n := by omega
        go_wp2
        obtain ⟨oa, oc, e1, o1⟩ := Own.of_row RO.out
        subst e1
        go_ret2
        rw [HM.out, HB.out]
        exact ⟨_, _, _, rfl, (show totsTo xs k = totsTo xs xs.length by rw [HN.out]) ▸ o1, NW.out⟩
  · have hf : flowB xs = false := by simpa using h1
    have HM := Lib.hid (show totM xs = [] by unfold totM; rw [if_neg h1])
    go_enter Try.func32, Try.ntmps32
    go_wp2_with fail
    refine (weFlows_any _ _ _ _ xs HA.out).mono ?_
    rintro e w1 ⟨rfl, n1⟩
    go_wp2
    go_ret2
    rw [HM.out]
    exact ⟨_, _, _, by rw [hf]; rfl, Own.nil _ _ _, n1⟩

set_option maxRecDepth 100000 in
theorem iRunningTotals_any (w : World) (aa : Option Addr) (n ca : Nat) (xs : List Int) (ha : Ints w aa n ca xs) :
    Calls Try.prog 31 #[.slice aa n ca] w fun e w' => ∃ oa on oc, e = .returned (.tuple #[.slice oa on oc, .bool (flowB xs)]) ∧ Own w' w.heap.size w'.heap.size oa on oc (totM xs) ∧ New w w' := by
  have HN := Lib.hid ha.1
  have HA := Lib.hid ha; clear ha
  by_cases h1 : flowB xs = true
  · have HM := Lib.hid (show totM xs = totsTo xs xs.length by unfold totM; rw [if_pos h1])
    have HC := Lib.hid (flowB_iff.1 h1)
    have hn : n ≤ 60 := by have := HN.out; have := HC.out.1; omega
    have HB := Lib.hid h1
    have hmk := run_make_row' (P := Try.prog) 25 3 (.int .i64 0) 8 Try.underlying25 Try.infoInt rfl .i64 .i64 n (by omega) (by omega)
    go_enter Try.func31, Try.ntmps31
    go_wp2_with fail
    refine (iAreFlows_any _ _ _ _ xs HA.out).mono ?_
    rintro e w1 ⟨rfl, n1⟩
    have N1 := Lib.hid n1; clear n1
    go_wp2
    clear h1
    go_loopw [5, 16] (fun y i wr => ∃ (k : Nat) (f : Nat → Value), k ≤ n ∧ i = .int .i64 k ∧ y = .int .i64 (totK xs k) ∧ wr.rowIs w1.heap.size 3 n f ∧ (∀ j, j < k → f j = .int .i64 (totK xs j + xs[j]?.getD 0)) ∧ (∀ j, ∃ z, f j = .int .i64 z) ∧ New w1 wr) (fun _ i _ => n - (intOf i).toNat)
    case atStart => exact ⟨0, _, Nat.zero_le _, rfl, rfl, World.rowIs_made _ _ _ _, fun j hj => absurd hj (by omega), fun _ => ⟨0, rfl⟩, (New.refl w1).alloc _⟩
    case round =>
      obtain ⟨k, f, hk, rfl, rfl, hrow, hf, hz, hnew⟩ := hrel
      have HR := Lib.hid hrow; clear hrow
      have HF := Lib.hid hf; clear hf
      have HZ := Lib.hid hz; clear hz
      have NW := Lib.hid hnew; clear hnew
      by_cases hlt : k < n
      · obtain ⟨b, o, rfl, hcl, _⟩ := (HA.out.new (N1.out.trans NW.out)).at hlt
        have KC := Lib.hid (show k < xs.length by have := HN.out; omega)
        have q0 := totK_bd HC.out k (by have := KC.out; omega)
        have q1 := HC.out.2 k KC.out
        obtain ⟨z, ez⟩ := HZ.out k
        have hd : wr.cell? ⟨w1.heap.size, k, none⟩ = some (.int .i64 z) := by rw [HR.out.cell hlt, ez]
        have hfz := HR.out.frozen k
        clear ez
        go_wp2
        go_roundw
        case rel =>
          refine ⟨k + 1, _, by omega, by go_num, rfl, HR.out.set k _, fun j hj => ?_, fun j => ?_, NW.out.setCell (Nat.le_refl _) _⟩
          · by_cases e : j = k
            · simp [e]
            · simp only [e, if_false]; exact HF.out j (by omega)
          · by_cases e : j = k
            · simp [e]
            · simp only [e, if_false]; exact HZ.out j
        case measure => simp [intOf]; omega
      · obtain rfl : k = n := by omega
        go_wp2
        go_ret2
        rw [HM.out, HB.out]
        refine ⟨_, _, _, rfl, ⟨by rw [totsTo_length, HN.out], Nat.le_refl _, by omega, .inr ⟨w1.heap.size, f, rfl, N1.out.size, HR.out.lt, HR.out, fun j hj => ?_⟩⟩, N1.out.trans NW.out⟩
        rw [HF.out j hj, totsTo_get _ _ _ (by have := HN.out; omega)]
  · have hf : flowB xs = false := by simpa using h1
    have HM := Lib.hid (show totM xs = [] by unfold totM; rw [if_neg h1])
    go_enter Try.func31, Try.ntmps31
    go_wp2_with fail
    refine (iAreFlows_any _ _ _ _ xs HA.out).mono ?_
    rintro e w1 ⟨rfl, n1⟩
    go_wp2
    go_ret2
    rw [HM.out]
    exact ⟨_, _, _, by rw [hf]; rfl, Own.nil _ _ _, n1⟩
end Go.Proofs.Ytchnnbkaiagpgaa
