/- All moves of so many vessels, the program's. -/
import Derived.Test.YtilepckgcgdjgaaGrid
namespace Go.Proofs.Ytilepckgcgdjgaa
open Go.RowKit

theorem Try.infoMove : (Try.prog.info? 77).map (fun i => (i.zero, i.size, i.bytes)) = some (some (.agg #[.int .i64 0, .int .i64 0]), 2, 16) := by kernel_rfl

def RetP0 (w : World) (l : List (Int × Int)) (e : Ending) (w' : World) : Prop :=
  ∃ sa n sc, e = .returned (.slice sa n sc) ∧ OwnP w' w.heap.size w'.heap.size sa n sc l ∧ New w w'

set_option maxHeartbeats 4000000 in
theorem movesAmong_open (w : World) (n : Nat) (h1 : 1 ≤ n) (h5 : n ≤ 5) : Calls Try.prog 57 #[.int .i64 n, .bool false] w (RetP0 w (gridUp twoB (-1) (n + 1) (n + 1))) := by
  obtain ⟨i0, hi, hz0, hz1, hz2⟩ := info_parts Try.infoMove
  go_enter Try.func57, Try.ntmps57
  go_wp2
  go_loopw [6, 7] (fun v f wr => ∃ (i : Nat) (f' : Int), i ≤ n + 1 ∧ f = .int .i64 f' ∧ f' = -1 + (i : Int) ∧ New w wr ∧ wr.ownsRow w.heap.size 77 2 v (gridUp twoB (-1) (n + 1) i).length (flat (gridUp twoB (-1) (n + 1) i))) (fun _ f _ => ((n : Int) - intOf f).toNat)
  case atStart => exact ⟨0, -1, Nat.zero_le _, rfl, by simp, New.refl _, World.ownsRow_nil _ _ _ _⟩
  case round =>
    obtain ⟨i, f', hi1, rfl, hf, hnw, how⟩ := hrel
    obtain ⟨f0, f1⟩ : -1 ≤ f' ∧ f' ≤ (n : Int) := by omega
    have HF := Lib.hid hf; clear hf
    have NW := Lib.hid hnw; clear hnw
    have HO := Lib.hid how; clear how
    by_cases hlt : f' < (n : Int)
    · go_wp2
      go_loopw [6, 8] (fun v t wr => ∃ (k : Nat) (t' : Int), k ≤ n + 1 ∧ t = .int .i64 t' ∧ t' = -1 + (k : Int) ∧ New w wr ∧ wr.ownsRow w.heap.size 77 2 v (grid twoB (-1) (n + 1) i k).length (flat (grid twoB (-1) (n + 1) i k))) (fun _ t _ => ((n : Int) - intOf t).toNat)
      case atStart => exact ⟨0, -1, Nat.zero_le _, rfl, by simp, NW.out, by rw [grid_zero]; exact HO.out⟩
      case round =>
        obtain ⟨k, t', hk1, rfl, ht, hnw, how⟩ := hrel
        obtain ⟨t0, t1⟩ : -1 ≤ t' ∧ t' ≤ (n : Int) := by omega
        have HT := Lib.hid ht; clear ht
        have NX := Lib.hid hnw; clear hnw
        have HX := Lib.hid how; clear how
        have sm := grid_small twoB (-1) (N := n + 1) (i := i) (k := k) (by omega) hi1 hk1
        have zw := NX.out.size
        by_cases hlt2 : t' < (n : Int)
        · by_cases hft : f' = t'
          · have E := Lib.hid (grid_no (P := twoB) (N := n + 1) HF.out HT.out (by simp [twoB, hft]))
            have hne : (f' != t') = false := by simpa using hft
            have hne2 : (t' != t') = false := by simp
            have HQ := Lib.hid hft; clear hft
            go_wp2
            go_roundw
            case rel => exact ⟨k + 1, t' + 1, by have := HT.out; omega, rfl, by have := HT.out; omega, NX.out, by rw [E.out]; exact HX.out⟩
            case measure => simp [intOf]; omega
          · have E := Lib.hid (grid_yes (P := twoB) (N := n + 1) HF.out HT.out (by simp [twoB, hft]))
            have hne : (f' != t') = true := by simpa using hft
            have HQ := Lib.hid hft; clear hft
            go_wp2_with (at_builtin; refine wpList_append_lies _ (by rfl) (.tmp 25) (.tmp 29) 43 (by rfl) w.heap.size 77 i0 _ 2 16 Try.underlying43 hi hz0 hz1 hz2 rfl (by decide) _ _ _ (by rfl) (ownsRow_new HX.out (by repeat (first | with_reducible exact New.refl _ | with_reducible assumption | refine New.drewN ?_ _ | refine New.drew ?_ | refine New.alloc ?_ _ | refine New.setCell ?_ (by first | omega | (simp; omega) | (simp; done)) _ | (refine New.trans ?_ (by assumption))))) _ _ _ (flat [(f', t')]) (by rfl) (by rfl) (World.news_of_block (cs := #[.int .i64 f', .int .i64 t']) (t := 77) (fr := (0, 0)) (heap_alloc_new _ _)) (by simp [flat, Value.oneCell']) (by omega) (by unfold maxLen; omega) (by omega) (by simp; omega) _ rfl ?_; intro g cap w' ho hg hb hlt')
            go_roundw
            case rel =>
              refine ⟨k + 1, t' + 1, by have := HT.out; omega, rfl, by have := HT.out; omega, New.grown (w := _) (NX.out.trans (by repeat (first | with_reducible exact New.refl _ | with_reducible assumption | refine New.drewN ?_ _ | refine New.drew ?_ | refine New.alloc ?_ _ | refine New.setCell ?_ (by first | omega | (simp; omega) | (simp; done)) _ | (refine New.trans ?_ (by assumption))))) (ownsRow_new HX.out (by repeat (first | with_reducible exact New.refl _ | with_reducible assumption | refine New.drewN ?_ _ | refine New.drew ?_ | refine New.alloc ?_ _ | refine New.setCell ?_ (by first | omega | (simp; omega) | (simp; done)) _ | (refine New.trans ?_ (by assumption))))) (Nat.le_refl _) hg, ?_⟩
              rw [E.out, List.length_append, flat_append]
              exact ho
            case measure => simp [intOf]; omega
        · have hkN : k = n + 1 := by have := HT.out; omega
          have E := Lib.hid (grid_full twoB (-1) (n + 1) i)
          have HK := Lib.hid hkN; clear hkN
          go_wp2
          go_roundw
          case rel => exact ⟨i + 1, f' + 1, by have := HF.out; omega, rfl, by have := HF.out; omega, NX.out, by have q := HX.out; rw [HK.out, E.out] at q; exact q⟩
          case measure => simp [intOf]; omega
    · have hiN : i = n + 1 := by have := HF.out; omega
      have ho := HO.out
      rw [hiN] at ho
      obtain ⟨sa, sc, rfl, o1⟩ := OwnP.of_row ho
      have O1 := Lib.hid o1
      clear ho o1 hiN
      go_wp2
      go_ret
      exact ⟨_, _, _, rfl, O1.out, NW.out⟩

set_option maxHeartbeats 4000000 in
theorem movesAmong_closed (w : World) (n : Nat) (h1 : 1 ≤ n) (h5 : n ≤ 5) : Calls Try.prog 57 #[.int .i64 n, .bool true] w (RetP0 w (gridUp twoB (0) (n) (n))) := by
  obtain ⟨i0, hi, hz0, hz1, hz2⟩ := info_parts Try.infoMove
  go_enter Try.func57, Try.ntmps57
  go_wp2
  go_loopw [6, 7] (fun v f wr => ∃ (i : Nat) (f' : Int), i ≤ n ∧ f = .int .i64 f' ∧ f' = 0 + (i : Int) ∧ New w wr ∧ wr.ownsRow w.heap.size 77 2 v (gridUp twoB (0) (n) i).length (flat (gridUp twoB (0) (n) i))) (fun _ f _ => ((n : Int) - intOf f).toNat)
  case atStart => exact ⟨0, 0, Nat.zero_le _, rfl, by simp, New.refl _, World.ownsRow_nil _ _ _ _⟩
  case round =>
    obtain ⟨i, f', hi1, rfl, hf, hnw, how⟩ := hrel
    obtain ⟨f0, f1⟩ : 0 ≤ f' ∧ f' ≤ (n : Int) := by omega
    have HF := Lib.hid hf; clear hf
    have NW := Lib.hid hnw; clear hnw
    have HO := Lib.hid how; clear how
    by_cases hlt : f' < (n : Int)
    · go_wp2
      go_loopw [6, 8] (fun v t wr => ∃ (k : Nat) (t' : Int), k ≤ n ∧ t = .int .i64 t' ∧ t' = 0 + (k : Int) ∧ New w wr ∧ wr.ownsRow w.heap.size 77 2 v (grid twoB (0) (n) i k).length (flat (grid twoB (0) (n) i k))) (fun _ t _ => ((n : Int) - intOf t).toNat)
      case atStart => exact ⟨0, 0, Nat.zero_le _, rfl, by simp, NW.out, by rw [grid_zero]; exact HO.out⟩
      case round =>
        obtain ⟨k, t', hk1, rfl, ht, hnw, how⟩ := hrel
        obtain ⟨t0, t1⟩ : 0 ≤ t' ∧ t' ≤ (n : Int) := by omega
        have HT := Lib.hid ht; clear ht
        have NX := Lib.hid hnw; clear hnw
        have HX := Lib.hid how; clear how
        have sm := grid_small twoB (0) (N := n) (i := i) (k := k) (by omega) hi1 hk1
        have zw := NX.out.size
        by_cases hlt2 : t' < (n : Int)
        · by_cases hft : f' = t'
          · have E := Lib.hid (grid_no (P := twoB) (N := n) HF.out HT.out (by simp [twoB, hft]))
            have hne : (f' != t') = false := by simpa using hft
            have hne2 : (t' != t') = false := by simp
            have HQ := Lib.hid hft; clear hft
            go_wp2
            go_roundw
            case rel => exact ⟨k + 1, t' + 1, by have := HT.out; omega, rfl, by have := HT.out; omega, NX.out, by rw [E.out]; exact HX.out⟩
            case measure => simp [intOf]; omega
          · have E := Lib.hid (grid_yes (P := twoB) (N := n) HF.out HT.out (by simp [twoB, hft]))
            have hne : (f' != t') = true := by simpa using hft
            have HQ := Lib.hid hft; clear hft
            go_wp2_with (at_builtin; refine wpList_append_lies _ (by rfl) (.tmp 25) (.tmp 29) 43 (by rfl) w.heap.size 77 i0 _ 2 16 Try.underlying43 hi hz0 hz1 hz2 rfl (by decide) _ _ _ (by rfl) (ownsRow_new HX.out (by repeat (first | with_reducible exact New.refl _ | with_reducible assumption | refine New.drewN ?_ _ | refine New.drew ?_ | refine New.alloc ?_ _ | refine New.setCell ?_ (by first | omega | (simp; omega) | (simp; done)) _ | (refine New.trans ?_ (by assumption))))) _ _ _ (flat [(f', t')]) (by rfl) (by rfl) (World.news_of_block (cs := #[.int .i64 f', .int .i64 t']) (t := 77) (fr := (0, 0)) (heap_alloc_new _ _)) (by simp [flat, Value.oneCell']) (by omega) (by unfold maxLen; omega) (by omega) (by simp; omega) _ rfl ?_; intro g cap w' ho hg hb hlt')
            go_roundw
            case rel =>
              refine ⟨k + 1, t' + 1, by have := HT.out; omega, rfl, by have := HT.out; omega, New.grown (w := _) (NX.out.trans (by repeat (first | with_reducible exact New.refl _ | with_reducible assumption | refine New.drewN ?_ _ | refine New.drew ?_ | refine New.alloc ?_ _ | refine New.setCell ?_ (by first | omega | (simp; omega) | (simp; done)) _ | (refine New.trans ?_ (by assumption))))) (ownsRow_new HX.out (by repeat (first | with_reducible exact New.refl _ | with_reducible assumption | refine New.drewN ?_ _ | refine New.drew ?_ | refine New.alloc ?_ _ | refine New.setCell ?_ (by first | omega | (simp; omega) | (simp; done)) _ | (refine New.trans ?_ (by assumption))))) (Nat.le_refl _) hg, ?_⟩
              rw [E.out, List.length_append, flat_append]
              exact ho
            case measure => simp [intOf]; omega
        · have hkN : k = n := by have := HT.out; omega
          have E := Lib.hid (grid_full twoB (0) (n) i)
          have HK := Lib.hid hkN; clear hkN
          go_wp2
          go_roundw
          case rel => exact ⟨i + 1, f' + 1, by have := HF.out; omega, rfl, by have := HF.out; omega, NX.out, by have q := HX.out; rw [HK.out, E.out] at q; exact q⟩
          case measure => simp [intOf]; omega
    · have hiN : i = n := by have := HF.out; omega
      have ho := HO.out
      rw [hiN] at ho
      obtain ⟨sa, sc, rfl, o1⟩ := OwnP.of_row ho
      have O1 := Lib.hid o1
      clear ho o1 hiN
      go_wp2
      go_ret
      exact ⟨_, _, _, rfl, O1.out, NW.out⟩

theorem movesAmong_any (w : World) (n : Nat) (closed : Bool) (h1 : 1 ≤ n) (h5 : n ≤ 5) : Calls Try.prog 57 #[.int .i64 n, .bool closed] w (RetP0 w (allL n closed)) := by
  cases closed with
  | false => exact movesAmong_open w n h1 h5
  | true => exact movesAmong_closed w n h1 h5
end Go.Proofs.Ytilepckgcgdjgaa
