/- FloodOrder: the sort, and the two functions. -/
import Derived.Test.YtklfelbolblgfaaFob
import Derived.Test.YtklfelbolblgfaaOrdS
import Derived.Test.YtklfelbolblgfaaSm
namespace Go.Proofs.Ytklfelbolblgfaa
open Go.RowKit Go.IntWalk Go.Shelf

set_option maxRecDepth 100000 in
theorem stable_any (W w : World) (P B : Nat) (aa : Option Addr) (n ca : Nat) (T : List Tk) (ha : Tanks W aa n ca T) (hP : W.cell? ⟨P, 0, none⟩ = some (.slice aa n ca)) (hB : W.heap.size ≤ B)
    (hn : n ≤ 6) (hn1 : 1 ≤ n) (hw : New W w) (hr : w.rowIs B 3 n (fun j => .int .i64 ((j : Nat) : Int))) :
    Calls Try.prog 87 #[.slice (some ⟨B, 0, none⟩) n n, .int .i64 n, .func (.func 72) #[] #[.pointer (some ⟨P, 0, none⟩)]] w
      fun e w' => (∃ v, e = .returned v) ∧ New W w' ∧ w'.rowIs B 3 n (fun j => .int .i64 ((rowO (flT T) n j : Nat) : Int)) := by
  have HA := Lib.hid ha; clear ha
  have HP := Lib.hid hP; clear hP
  have HW := Lib.hid hw; clear hw
  have HR := Lib.hid hr; clear hr
  have n20 : ¬ (20 : Int) ≤ (n : Int) := by omega
  have n21 : ¬ (20 : Int) < (n : Int) := by omega
  go_enter Try.func87, Try.ntmps87
  go_wp2_with fail
  go_loopw [7, 8] (fun a b wr => a = .int .i64 0 ∧ b = .int .i64 20 ∧ wr = w) (fun _ _ _ => 0)
  case atStart => exact ⟨rfl, rfl, rfl⟩
  case round =>
    obtain ⟨rfl, rfl, rfl⟩ := hrel
    go_wp2_with fail
    refine (insSort_any W _ P B aa n ca T HA.out HP.out hB hn hn1 HW.out HR.out).mono ?_
    rintro e w1 ⟨⟨v, rfl⟩, nw, hrow⟩
    have NW := Lib.hid nw; clear nw
    have HR1 := Lib.hid hrow; clear hrow
    go_wp2_with fail
    go_loopw [6] (fun a wr => a = .int .i64 20 ∧ wr = w1) (fun _ _ => 0)
    case atStart => exact ⟨rfl, rfl⟩
    case round =>
      obtain ⟨rfl, rfl⟩ := hrel
      go_wp2_with fail
      go_end0
      exact ⟨⟨_, rfl⟩, NW.out, HR1.out⟩

set_option maxRecDepth 100000 in
theorem sortStable_any (W w : World) (P B : Nat) (aa : Option Addr) (n ca : Nat) (T : List Tk) (ha : Tanks W aa n ca T) (hP : W.cell? ⟨P, 0, none⟩ = some (.slice aa n ca)) (hB : W.heap.size ≤ B)
    (hn : n ≤ 6) (hn1 : 1 ≤ n) (hw : New W w) (hr : w.rowIs B 3 n (fun j => .int .i64 ((j : Nat) : Int))) :
    Calls Try.prog 71 #[.slice (some ⟨B, 0, none⟩) n n, .func (.func 72) #[] #[.pointer (some ⟨P, 0, none⟩)]] w
      fun e w' => (∃ v, e = .returned v) ∧ New W w' ∧ w'.rowIs B 3 n (fun j => .int .i64 ((rowO (flT T) n j : Nat) : Int)) := by
  have HA := Lib.hid ha; clear ha
  have HP := Lib.hid hP; clear hP
  have HW := Lib.hid hw; clear hw
  have HR := Lib.hid hr; clear hr
  go_enter Try.func71, Try.ntmps71
  go_wp2_with fail
  refine (stable_any W _ P B aa n ca T HA.out HP.out hB hn hn1 HW.out HR.out).mono ?_
  rintro e w1 ⟨⟨v, rfl⟩, nw, hrow⟩
  have NW := Lib.hid nw; clear nw
  have HR1 := Lib.hid hrow; clear hrow
  go_wp2
  go_end0
  exact ⟨⟨_, rfl⟩, NW.out, HR1.out⟩
def floM (T : List Tk) : List Int := if tksB T then ordL T else []
theorem floM_small (T : List Tk) : (floM T).length ≤ 1048576 := by
  unfold floM
  by_cases h : tksB T = true
  · rw [if_pos h, ordL_length]; have := (tksB_iff.1 h).l6; omega
  · rw [if_neg h]; simp
set_option maxRecDepth 100000 in
theorem sFloodOrder_any (w : World) (aa : Option Addr) (n ca : Nat) (T : List Tk) (ha : Tanks w aa n ca T) :
    Calls Try.prog 38 #[.slice aa n ca] w fun e w' => ∃ ao m cap, e = .returned (.tuple #[.slice ao m cap, .bool (tksB T)]) ∧ Own w' w.heap.size w'.heap.size ao m cap (floM T) ∧ New w w' := by
  have HN := Lib.hid ha.1
  have HA := Lib.hid ha; clear ha
  by_cases h : tksB T = true
  · have HT := Lib.hid h
    have hn : n ≤ 6 := by have := (tksB_iff.1 h).l6; have := HN.out; omega
    have HM := Lib.hid (show floM T = ordL T by unfold floM; rw [if_pos h]); clear h
    go_enter Try.func38, Try.ntmps38
    go_wp2_with fail
    refine (leTanks_any _ _ _ _ T HA.out).mono ?_
    rintro e w1 ⟨rfl, n1⟩
    rw [HT.out]
    have N1 := Lib.hid n1; clear n1
    go_wp2_with fail
    refine (leOrder_any _ _ _ _ T (HA.out.new N1.out) hn).mono ?_
    rintro e w2 ⟨ao, cap, rfl, oo, n2⟩
    have OO := Lib.hid oo; clear oo
    have N2 := Lib.hid n2; clear n2
    go_wp2
    go_ret2
    exact ⟨ao, n, cap, by rw [HT.out]; rfl, by rw [HM.out]; exact OO.out.mono N1.out.size (Nat.le_refl _), N1.out.trans N2.out⟩
  · have hf := bool_no h
    have HT := Lib.hid hf
    have HM := Lib.hid (show floM T = [] by unfold floM; rw [if_neg h])
    clear h hf
    go_enter Try.func38, Try.ntmps38
    go_wp2_with fail
    refine (leTanks_any _ _ _ _ T HA.out).mono ?_
    rintro e w1 ⟨rfl, n1⟩
    rw [HT.out]
    have N1 := Lib.hid n1; clear n1
    go_wp2
    go_ret2
    exact ⟨none, 0, 0, by rw [HT.out]; rfl, by rw [HM.out]; exact Own.nil _ _ _, N1.out⟩

theorem rowO_ordL {T : List Tk} {n j : Nat} (hn : n = T.length) (hj : j < n) : ((rowO (flT T) n j : Nat) : Int) = (ordL T)[j]?.getD 0 := by
  unfold rowO ordL ordN
  rw [if_pos hj, map_get, hn]
set_option maxRecDepth 100000 in
set_option maxHeartbeats 1000000 in
theorem iFloodOrder_any (w : World) (aa : Option Addr) (n ca : Nat) (T : List Tk) (ha : Tanks w aa n ca T) :
    Calls Try.prog 39 #[.slice aa n ca] w fun e w' => ∃ ao m cap, e = .returned (.tuple #[.slice ao m cap, .bool (tksB T)]) ∧ Own w' w.heap.size w'.heap.size ao m cap (floM T) ∧ New w w' := by
  have HN := Lib.hid ha.1
  have HA := Lib.hid ha; clear ha
  by_cases h : tksB T = true
  · have HT := Lib.hid h
    have hn : n ≤ 6 := by have := (tksB_iff.1 h).l6; have := HN.out; omega
    have hn1 : 1 ≤ n := by have := (tksB_iff.1 h).l1; have := HN.out; omega
    have HM := Lib.hid (show floM T = ordL T by unfold floM; rw [if_pos h]); clear h
    have hmk := run_make_row' (P := Try.prog) 54 3 (.int .i64 0) 8 Try.underlying54 Try.infoInt rfl .i64 .i64 n (by omega) (by omega)
    go_enter Try.func39, Try.ntmps39
    go_upto_region 1 with fail
    obtain ⟨v0, hv0⟩ : ∃ x : World, x = w.alloc (.cells #[.slice aa n ca] 36) := ⟨_, rfl⟩
    rw [← hv0]
    have b0 : v0.cell? ⟨w.heap.size, 0, none⟩ = some (.slice aa n ca) := by rw [hv0]; simp [go_sem]
    have N0 := Lib.hid (show New w v0 by rw [hv0]; exact (by repeat (first | with_reducible exact New.refl _ | with_reducible assumption | refine New.drewN ?_ _ | refine New.drew ?_ | refine New.alloc ?_ _ | refine New.setCell ?_ (by first | omega | (simp; omega) | (simp; done)) _ | (refine New.trans ?_ (by assumption)))))
    clear hv0
    go_wp2_with fail
    refine (iAreTanks_any _ _ _ _ T (HA.out.new N0.out)).mono ?_
    rintro e w1 ⟨rfl, n1⟩
    rw [HT.out]
    have b1 := n1.cell b0
    have N1 := Lib.hid (N0.out.trans n1); clear n1 b0
    go_wp2_with fail
    go_loopw [14] (fun i wr => ∃ (k : Nat) (f : Nat → Value), k ≤ n ∧ i = .int .i64 k ∧ wr.rowIs w1.heap.size 3 n f ∧ (∀ j, j < k → f j = .int .i64 ((j : Nat) : Int)) ∧ (∀ j, ∃ z, f j = .int .i64 z) ∧ New w1 wr)
      (fun i _ => n - (intOf i).toNat)
    case atStart => exact ⟨0, _, Nat.zero_le _, rfl, World.rowIs_made _ _ _ _, fun j hj => absurd hj (by omega), fun _ => ⟨0, rfl⟩, (New.refl w1).alloc _⟩
    case round =>
      obtain ⟨k, f, hk, rfl, hrow, hf, hz, hnew⟩ := hrel
      have HR := Lib.hid hrow; clear hrow
      have HF := Lib.hid hf; clear hf
      have HZ := Lib.hid hz; clear hz
      have NW := Lib.hid hnew; clear hnew
      clear hmk
      by_cases hlt : k < n
      · obtain ⟨z, ez⟩ := HZ.out k
        have hd : wr.cell? ⟨w1.heap.size, k, none⟩ = some (.int .i64 z) := by rw [HR.out.cell hlt, ez]
        have hfz := HR.out.frozen k
        clear ez
        go_wp2
        go_roundw
        case rel =>
          refine ⟨k + 1, _, by omega, by go_num, HR.out.set k _, fun j hj => ?_, fun j => ?_, NW.out.setCell (Nat.le_refl _) _⟩
          · by_cases e : j = k
            · simp [e]
            · simp only [e, if_false]; exact HF.out j (by omega)
          · by_cases e : j = k
            · simp [e]
            · simp only [e, if_false]; exact HZ.out j
        case measure => simp [intOf]; omega
      · obtain rfl : k = n := by omega
        go_wp2_with fail
        refine (sortStable_any w1 _ w.heap.size w1.heap.size aa k ca T (HA.out.new N1.out) b1 (Nat.le_refl _) hn hn1 NW.out (HR.out.congr fun j hj => HF.out j hj)).mono ?_
        rintro e w2 ⟨⟨v, rfl⟩, nw, hrow⟩
        have N2 := Lib.hid nw; clear nw
        have HR2 := Lib.hid hrow; clear hrow
        go_wp2
        go_ret2
        refine ⟨some ⟨w1.heap.size, 0, none⟩, k, k, by rw [HT.out]; rfl, ?_, N1.out.trans N2.out⟩
        rw [HM.out]
        exact ⟨by rw [ordL_length]; exact HN.out, Nat.le_refl _, by omega, .inr ⟨w1.heap.size, _, rfl, N1.out.size, HR2.out.lt, HR2.out, fun j hj => by rw [rowO_ordL HN.out hj]⟩⟩
  · have hf := bool_no h
    have HT := Lib.hid hf
    have HM := Lib.hid (show floM T = [] by unfold floM; rw [if_neg h])
    clear h hf
    go_enter Try.func39, Try.ntmps39
    go_wp2_with fail
    refine (iAreTanks_any _ _ _ _ T (HA.out.new (by repeat (first | with_reducible exact New.refl _ | with_reducible assumption | refine New.drewN ?_ _ | refine New.drew ?_ | refine New.alloc ?_ _ | refine New.setCell ?_ (by first | omega | (simp; omega) | (simp; done)) _ | (refine New.trans ?_ (by assumption)))))).mono ?_
    rintro e w1 ⟨rfl, n1⟩
    rw [HT.out]
    have N1 := Lib.hid (show New w w1 from New.trans (by repeat (first | with_reducible exact New.refl _ | with_reducible assumption | refine New.drewN ?_ _ | refine New.drew ?_ | refine New.alloc ?_ _ | refine New.setCell ?_ (by first | omega | (simp; omega) | (simp; done)) _ | (refine New.trans ?_ (by assumption)))) n1); clear n1
    go_wp2
    go_ret2
    exact ⟨none, 0, 0, by rw [HT.out]; rfl, by rw [HM.out]; exact Own.nil _ _ _, N1.out⟩
end Go.Proofs.Ytklfelbolblgfaa
