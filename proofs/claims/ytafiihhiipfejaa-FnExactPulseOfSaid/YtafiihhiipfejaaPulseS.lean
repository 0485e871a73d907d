/- The model's pulse and period: what runs out and is spilt in it, and whether it stops. -/
import Derived.Test.YtafiihhiipfejaaMeetS
namespace Go.Proofs.Ytafiihhiipfejaa
open Go.RowKit

def outP (a b c d x : Int) (i : Nat) : Int := tkO a b c d (cst a b c d x i).1 x (cst a b c d x i).2
def spP (a b c d x : Int) (i : Nat) : Int := tkS a (cst a b c d x i).1 x
def pulseTo (a b c d x : Int) (K j : Nat) : List Int := (List.range j).map fun i => outP a b c d x (K + i)
theorem pulseTo_length (a b c d x : Int) (K j : Nat) : (pulseTo a b c d x K j).length = j := by simp [pulseTo]
theorem pulseTo_succ (a b c d x : Int) (K j : Nat) : pulseTo a b c d x K (j + 1) = pulseTo a b c d x K j ++ [outP a b c d x (K + j)] := by simp [pulseTo, List.range_succ]
def spTo (a b c d x : Int) (K : Nat) : Nat → Int
  | 0 => 0
  | j + 1 => spTo a b c d x K j + spP a b c d x (K + j)
theorem spP_bd {a b c d x : Int} (hs : SipOk a b c d) (x0 : 0 ≤ x) (x1 : x ≤ 60) (i : Nat) : 0 ≤ spP a b c d x i ∧ spP a b c d x i ≤ 60 := tkS_bd a _ x (cst_bd hs x0 i).2 x1
theorem spTo_bd {a b c d x : Int} (hs : SipOk a b c d) (x0 : 0 ≤ x) (x1 : x ≤ 60) (K j : Nat) : 0 ≤ spTo a b c d x K j ∧ spTo a b c d x K j ≤ 60 * j := by
  induction j with
  | zero => exact ⟨by simp [spTo], by simp [spTo]⟩
  | succ j ih =>
    have := spP_bd hs x0 x1 (K + j)
    unfold spTo
    omega
/-- Whether it runs at all levels from K on, below K + j. -/
def runsTo (a b c d x : Int) (K : Nat) : Nat → Bool
  | 0 => true
  | j + 1 => runsTo a b c d x K j && (cst a b c d x (K + j)).2
theorem runsTo_false {a b c d x : Int} {K j i : Nat} (hi : i < j) (h : (cst a b c d x (K + i)).2 = false) : runsTo a b c d x K j = false := by
  induction j with
  | zero => omega
  | succ j ih =>
    unfold runsTo
    by_cases e : i = j
    · subst e; rw [h]; simp
    · rw [ih (by omega)]; rfl
theorem runsTo_true {a b c d x : Int} {K j : Nat} (h : ∀ i, i < j → (cst a b c d x (K + i)).2 = true) : runsTo a b c d x K j = true := by
  induction j with
  | zero => rfl
  | succ j ih => unfold runsTo; rw [ih fun i hi => h i (by omega), h j (by omega)]; rfl
def perP (a b c d x : Int) : Nat := perN a b c d x - perK a b c d x
def pulseM (a b c d x : Int) : List Int := if steadyB a b c d x = true then pulseTo a b c d x (perK a b c d x) (perP a b c d x) else []
def spiltM (a b c d x : Int) : Int := if steadyB a b c d x = true then spTo a b c d x (perK a b c d x) (perP a b c d x) else 0
def neverM (a b c d x : Int) : Bool := steadyB a b c d x && runsTo a b c d x (perK a b c d x) (perP a b c d x)

set_option maxRecDepth 100000 in
set_option maxHeartbeats 4000000 in
theorem siPulse_any (w : World) (a b c d x : Int) (hs : SipOk a b c d) (x0 : 0 ≤ x) (x1 : x ≤ 60) :
    Calls Try.prog 35 #[sipV a b c d, .int .i64 x] w fun e w' => ∃ oa on oc, e = .returned (.tuple #[.slice oa on oc, .int .i64 (spTo a b c d x (perK a b c d x) (perP a b c d x))]) ∧ Own w' w.heap.size w'.heap.size oa on oc (pulseTo a b c d x (perK a b c d x) (perP a b c d x)) ∧ New w w' := by
  have HS := Lib.hid hs; clear hs
  obtain ⟨i0, hi, hz0, hz1, hz2⟩ := info_parts Try.infoInt
  go_enter Try.func35, Try.ntmps35
  go_wp2_with fail
  refine (siMeet_any _ _ _ _ _ _ HS.out x0 x1).mono ?_
  rintro e w1 ⟨n, K, hm, hn, rfl, n1⟩
  obtain ⟨e1, e2⟩ := per_is hm (by omega)
  have KN : K < n := hm.2.1
  have EP := Lib.hid (show perK a b c d x = K ∧ perP a b c d x = n - K by unfold perP; rw [e1, e2]; exact ⟨rfl, rfl⟩)
  clear e1 e2 hm
  have p0 : w1.cell? ⟨w.heap.size, 0, none⟩ = some (.int .i64 a) := n1.cell (by simp [go_sem])
  have p1 : w1.cell? ⟨w.heap.size, 1, none⟩ = some (.int .i64 b) := n1.cell (by simp [go_sem])
  have p2 : w1.cell? ⟨w.heap.size, 2, none⟩ = some (.int .i64 c) := n1.cell (by simp [go_sem])
  have p3 : w1.cell? ⟨w.heap.size, 3, none⟩ = some (.int .i64 d) := n1.cell (by simp [go_sem])
  have z1 : w.heap.size < w1.heap.size := by have := n1.size; simp at this; omega
  have N1 := Lib.hid (show New w w1 from New.trans (by repeat (first | with_reducible exact New.refl _ | with_reducible assumption | refine New.drewN ?_ _ | refine New.drew ?_ | refine New.alloc ?_ _ | refine New.setCell ?_ (by first | omega | (simp; omega) | (simp; done)) _ | (refine New.trans ?_ (by assumption)))) n1); clear n1
  obtain ⟨P, hP⟩ : ∃ P : Nat, P = n - K := ⟨_, rfl⟩
  have e3 : ((n : Int) - K) = (P : Int) := by omega
  have P122 : P ≤ 122 := by omega
  rw [e3]
  have EQ := Lib.hid (show perK a b c d x = K ∧ perP a b c d x = P from ⟨EP.out.1, EP.out.2.trans hP.symm⟩)
  clear e3 hP
  go_wp2
  obtain ⟨v0, hv0⟩ : ∃ v, v = w1.alloc (.cells #[.int .i64 (cst a b c d x K).1, .bool (cst a b c d x K).2] 55) := ⟨_, rfl⟩
  rw [← hv0]
  have nv : New w1 v0 := by rw [hv0]; exact (by repeat (first | with_reducible exact New.refl _ | with_reducible assumption | refine New.drewN ?_ _ | refine New.drew ?_ | refine New.alloc ?_ _ | refine New.setCell ?_ (by first | omega | (simp; omega) | (simp; done)) _ | (refine New.trans ?_ (by assumption))))
  have RR : RunR v0 v0 w1.heap.size (w1.heap.size + 1) 3 55 (.int .i64 (cst a b c d x (K + 0)).1) (.bool (cst a b c d x (K + 0)).2) (.slice none 0 0) 0 [] (.slice none 0 0) 0 [] := by
    refine ⟨Below.refl _ _, by omega, by rw [hv0]; simp [go_sem], by rw [hv0]; simp [go_sem], by rw [hv0]; simp [go_sem], by rw [hv0]; simp [go_sem], World.ownsRow_nil _ _ _ _, World.ownsRow_nil _ _ _ _, fun g e => by simp [Value.ownBlock] at e⟩
  have PP := Lib.hid (And.intro (nv.cell p0) (And.intro (nv.cell p1) (And.intro (nv.cell p2) (nv.cell p3)))); clear p0 p1 p2 p3
  have NV := Lib.hid (N1.out.trans nv); clear nv
  have RR0 := Lib.hid RR; clear RR
  clear hv0
  go_loopw [9, 10, 11] (fun vo vs i wr => ∃ j : Nat, j ≤ P ∧ i = .int .i64 j ∧ vs = .int .i64 (spTo a b c d x K j) ∧
    RunR v0 wr w1.heap.size (w1.heap.size + 1) 3 55 (.int .i64 (cst a b c d x (K + j)).1) (.bool (cst a b c d x (K + j)).2) vo j ((pulseTo a b c d x K j).map (Value.int .i64)) (.slice none 0 0) 0 []) (fun _ _ i _ => P - (intOf i).toNat)
  case atStart => exact ⟨0, Nat.zero_le _, rfl, rfl, RR0.out⟩
  case round =>
    obtain ⟨j, hj, rfl, rfl, hrr⟩ := hrel
    have RR := Lib.hid hrr; clear hrr
    have NW := Lib.hid (RR.out.since NV.out (by omega))
    have sb := cst_bd (a := a) (b := b) (c := c) (d := d) HS.out x0 (K + j)
    have sp := spTo_bd HS.out x0 x1 K j
    have st := spP_bd HS.out x0 x1 (K + j)
    unfold spP at st
    obtain ⟨sb0, sb1⟩ := sb
    obtain ⟨sp0, sp1⟩ := sp
    obtain ⟨st0, st1⟩ := st
    by_cases hlt : j < P
    · have l0 := RR.out.c0
      have l1 := RR.out.c1
      have p0 := RR.out.old PP.out.1 (by simp; omega)
      have p1 := RR.out.old PP.out.2.1 (by simp; omega)
      have p2 := RR.out.old PP.out.2.2.1 (by simp; omega)
      have p3 := RR.out.old PP.out.2.2.2 (by simp; omega)
      go_wp2_with fail
      refine (siTick_any _ _ _ _ _ _ _ _ HS.out sb0 sb1 x0 x1).mono ?_
      rintro e w2 ⟨rfl, n2⟩
      replace l0 := n2.cell l0
      replace l1 := n2.cell l1
      have f0 := n2.frz RR.out.c0 RR.out.f0
      have f1 := n2.frz RR.out.c1 RR.out.f1
      have RR1 := Lib.hid (RR.out.kept n2); clear n2 p0 p1 p2 p3
      have zb := RR1.out.bsize
      go_wp2_with (at_builtin; (refine wpList_append_lies _ (by rfl) (.tmp 36) (.tmp 38) 29 (by rfl) (w1.heap.size + 1) 3 i0 (.int .i64 0) 1 8 Try.underlying29 hi hz0 hz1 hz2 rfl (by decide) _ j _ (by rfl) (((RR1.out.put _ _).kept (by repeat (first | with_reducible exact New.refl _ | with_reducible assumption | refine New.drewN ?_ _ | refine New.drew ?_ | refine New.alloc ?_ _ | refine New.setCell ?_ (by first | omega | (simp; omega) | (simp; done)) _ | (refine New.trans ?_ (by assumption))))).outs) _ _ _ [.int .i64 (tkO a b c d (cst a b c d x (K + j)).1 x (cst a b c d x (K + j)).2)] (by rfl) (by rfl) (World.news_of_block (cs := #[.int .i64 (tkO a b c d (cst a b c d x (K + j)).1 x (cst a b c d x (K + j)).2)]) (t := 3) (fr := (0, 0)) (heap_alloc_at (by simp))) (by simp [Value.oneCell']) (by omega) (by unfold maxLen; omega) (by omega) (by first | omega | (simp; omega) | (simp; done)) _ rfl ?_; intro g cap w3 ho hg hb' hlt'; have RR2 := Lib.hid (RunR.growO ((RR1.out.put _ _).kept (by repeat (first | with_reducible exact New.refl _ | with_reducible assumption | refine New.drewN ?_ _ | refine New.drew ?_ | refine New.alloc ?_ _ | refine New.setCell ?_ (by first | omega | (simp; omega) | (simp; done)) _ | (refine New.trans ?_ (by assumption))))) ho hg hb'); clear ho hg hb' hlt' l0 l1 f0 f1))
      go_roundw
      case rel =>
        refine ⟨j + 1, by omega, by go_num, rfl, ?_⟩
        rw [pulseTo_succ, List.map_append]
        exact RR2.out
      case measure => simp [intOf]; omega
    · obtain rfl : j = P := by omega
      go_wp2
      obtain ⟨oa, oc, e1, o1⟩ := Own.of_row RR.out.outs
      subst e1
      go_ret2
      rw [EQ.out.1, EQ.out.2]
      exact ⟨_, _, _, rfl, o1.mono (by omega) (Nat.le_refl _), NW.out⟩

theorem sPulseOf_any (w : World) (a b c d x : Int) :
    Calls Try.prog 12 #[sipV a b c d, .int .i64 x] w fun e w' => ∃ oa on oc, e = .returned (.tuple #[.slice oa on oc, .bool (steadyB a b c d x)]) ∧ Own w' w.heap.size w'.heap.size oa on oc (pulseM a b c d x) ∧ New w w' := by
  by_cases hs : steadyB a b c d x = true
  · obtain ⟨ho, x0, x1⟩ := steadyB_iff.1 hs
    go_enter Try.func12, Try.ntmps12
    go_wp2_with fail
    refine (siSteady_any _ _ _ _ _ _).mono ?_
    rintro e w1 ⟨rfl, n1⟩
    have b0 : w1.cell? ⟨w.heap.size, 0, none⟩ = some (.int .i64 a) := n1.cell (by simp [go_sem])
    have b1 : w1.cell? ⟨w.heap.size, 1, none⟩ = some (.int .i64 b) := n1.cell (by simp [go_sem])
    have b2 : w1.cell? ⟨w.heap.size, 2, none⟩ = some (.int .i64 c) := n1.cell (by simp [go_sem])
    have b3 : w1.cell? ⟨w.heap.size, 3, none⟩ = some (.int .i64 d) := n1.cell (by simp [go_sem])
    have N1 := Lib.hid (show New w w1 from New.trans (by repeat (first | with_reducible exact New.refl _ | with_reducible assumption | refine New.drewN ?_ _ | refine New.drew ?_ | refine New.alloc ?_ _ | refine New.setCell ?_ (by first | omega | (simp; omega) | (simp; done)) _ | (refine New.trans ?_ (by assumption)))) n1); clear n1
    go_wp2_with fail
    refine (siPulse_any _ _ _ _ _ _ ho x0 x1).mono ?_
    rintro e w2 ⟨oa, on, oc, rfl, o2, n2⟩
    clear b0 b1 b2 b3
    have O2 := Lib.hid o2; clear o2
    have zn := N1.out.size
    have N2 := Lib.hid (N1.out.trans n2); clear n2
    go_wp2
    go_ret2
    exact ⟨_, _, _, by rw [hs]; rfl, by unfold pulseM; rw [if_pos hs]; exact O2.out.mono zn (Nat.le_refl _), N2.out⟩
  · have hf : steadyB a b c d x = false := by simpa using hs
    go_enter Try.func12, Try.ntmps12
    go_wp2_with fail
    refine (siSteady_any _ _ _ _ _ _).mono ?_
    rintro e w1 ⟨rfl, n1⟩
    have b0 : w1.cell? ⟨w.heap.size, 0, none⟩ = some (.int .i64 a) := n1.cell (by simp [go_sem])
    have b1 : w1.cell? ⟨w.heap.size, 1, none⟩ = some (.int .i64 b) := n1.cell (by simp [go_sem])
    have b2 : w1.cell? ⟨w.heap.size, 2, none⟩ = some (.int .i64 c) := n1.cell (by simp [go_sem])
    have b3 : w1.cell? ⟨w.heap.size, 3, none⟩ = some (.int .i64 d) := n1.cell (by simp [go_sem])
    have N1 := Lib.hid (show New w w1 from New.trans (by repeat (first | with_reducible exact New.refl _ | with_reducible assumption | refine New.drewN ?_ _ | refine New.drew ?_ | refine New.alloc ?_ _ | refine New.setCell ?_ (by first | omega | (simp; omega) | (simp; done)) _ | (refine New.trans ?_ (by assumption)))) n1); clear n1
    go_wp2
    go_ret2
    exact ⟨none, 0, 0, by rw [hf]; rfl, by unfold pulseM; rw [if_neg hs]; exact Own.nil _ _ _, N1.out⟩

theorem sSpiltInPeriod_any (w : World) (a b c d x : Int) :
    Calls Try.prog 17 #[sipV a b c d, .int .i64 x] w fun e w' => e = .returned (.tuple #[.int .i64 (spiltM a b c d x), .bool (steadyB a b c d x)]) ∧ New w w' := by
  by_cases hs : steadyB a b c d x = true
  · obtain ⟨ho, x0, x1⟩ := steadyB_iff.1 hs
    go_enter Try.func17, Try.ntmps17
    go_wp2_with fail
    refine (siSteady_any _ _ _ _ _ _).mono ?_
    rintro e w1 ⟨rfl, n1⟩
    have b0 : w1.cell? ⟨w.heap.size, 0, none⟩ = some (.int .i64 a) := n1.cell (by simp [go_sem])
    have b1 : w1.cell? ⟨w.heap.size, 1, none⟩ = some (.int .i64 b) := n1.cell (by simp [go_sem])
    have b2 : w1.cell? ⟨w.heap.size, 2, none⟩ = some (.int .i64 c) := n1.cell (by simp [go_sem])
    have b3 : w1.cell? ⟨w.heap.size, 3, none⟩ = some (.int .i64 d) := n1.cell (by simp [go_sem])
    have N1 := Lib.hid (show New w w1 from New.trans (by repeat (first | with_reducible exact New.refl _ | with_reducible assumption | refine New.drewN ?_ _ | refine New.drew ?_ | refine New.alloc ?_ _ | refine New.setCell ?_ (by first | omega | (simp; omega) | (simp; done)) _ | (refine New.trans ?_ (by assumption)))) n1); clear n1
    go_wp2_with fail
    refine (siPulse_any _ _ _ _ _ _ ho x0 x1).mono ?_
    rintro e w2 ⟨oa, on, oc, rfl, o2, n2⟩
    clear b0 b1 b2 b3
    have O2 := Lib.hid o2; clear o2
    have zn := N1.out.size
    have N2 := Lib.hid (N1.out.trans n2); clear n2
    go_wp2
    go_ret2
    exact ⟨by unfold spiltM; rw [if_pos hs, hs]; rfl, N2.out⟩
  · have hf : steadyB a b c d x = false := by simpa using hs
    go_enter Try.func17, Try.ntmps17
    go_wp2_with fail
    refine (siSteady_any _ _ _ _ _ _).mono ?_
    rintro e w1 ⟨rfl, n1⟩
    have b0 : w1.cell? ⟨w.heap.size, 0, none⟩ = some (.int .i64 a) := n1.cell (by simp [go_sem])
    have b1 : w1.cell? ⟨w.heap.size, 1, none⟩ = some (.int .i64 b) := n1.cell (by simp [go_sem])
    have b2 : w1.cell? ⟨w.heap.size, 2, none⟩ = some (.int .i64 c) := n1.cell (by simp [go_sem])
    have b3 : w1.cell? ⟨w.heap.size, 3, none⟩ = some (.int .i64 d) := n1.cell (by simp [go_sem])
    have N1 := Lib.hid (show New w w1 from New.trans (by repeat (first | with_reducible exact New.refl _ | with_reducible assumption | refine New.drewN ?_ _ | refine New.drew ?_ | refine New.alloc ?_ _ | refine New.setCell ?_ (by first | omega | (simp; omega) | (simp; done)) _ | (refine New.trans ?_ (by assumption)))) n1); clear n1
    go_wp2
    go_ret2
    exact ⟨by unfold spiltM; rw [if_neg hs, hf]; rfl, N1.out⟩

set_option maxRecDepth 100000 in
set_option maxHeartbeats 4000000 in
theorem sNeverStops_any (w : World) (a b c d x : Int) :
    Calls Try.prog 19 #[sipV a b c d, .int .i64 x] w fun e w' => e = .returned (.tuple #[.bool (neverM a b c d x), .bool (steadyB a b c d x)]) ∧ New w w' := by
  by_cases hs : steadyB a b c d x = true
  · obtain ⟨ho, x0, x1⟩ := steadyB_iff.1 hs
    go_enter Try.func19, Try.ntmps19
    go_wp2_with fail
    refine (siSteady_any _ _ _ _ _ _).mono ?_
    rintro e w1 ⟨rfl, n1⟩
    have b0 : w1.cell? ⟨w.heap.size, 0, none⟩ = some (.int .i64 a) := n1.cell (by simp [go_sem])
    have b1 : w1.cell? ⟨w.heap.size, 1, none⟩ = some (.int .i64 b) := n1.cell (by simp [go_sem])
    have b2 : w1.cell? ⟨w.heap.size, 2, none⟩ = some (.int .i64 c) := n1.cell (by simp [go_sem])
    have b3 : w1.cell? ⟨w.heap.size, 3, none⟩ = some (.int .i64 d) := n1.cell (by simp [go_sem])
    have N1 := Lib.hid (show New w w1 from New.trans (by repeat (first | with_reducible exact New.refl _ | with_reducible assumption | refine New.drewN ?_ _ | refine New.drew ?_ | refine New.alloc ?_ _ | refine New.setCell ?_ (by first | omega | (simp; omega) | (simp; done)) _ | (refine New.trans ?_ (by assumption)))) n1); clear n1
    go_wp2_with fail
    refine (siMeet_any _ _ _ _ _ _ ho x0 x1).mono ?_
    rintro e w2 ⟨n, K, hm, hn, rfl, n2⟩
    obtain ⟨e1, e2⟩ := per_is hm (by omega)
    have KN : K < n := hm.2.1
    have EP := Lib.hid (show neverM a b c d x = runsTo a b c d x K (n - K) by unfold neverM perP; rw [hs, e1, e2]; rfl)
    have HSS := Lib.hid hs; clear hs
    have HO := Lib.hid ho; clear ho
    clear e1 e2 hm
    have PP := Lib.hid (And.intro (n2.cell b0) (And.intro (n2.cell b1) (And.intro (n2.cell b2) (n2.cell b3)))); clear b0 b1 b2 b3
    have z1 : w.heap.size < w2.heap.size := World.block_lt_of_cell? _ _ PP.out.1
    have N2 := Lib.hid (N1.out.trans n2); clear n2
    obtain ⟨P, hP⟩ : ∃ P : Nat, P = n - K := ⟨_, rfl⟩
    have e3 : ((n : Int) - K) = (P : Int) := by omega
    have P122 : P ≤ 122 := by omega
    rw [e3]
    have EQ := Lib.hid (show neverM a b c d x = runsTo a b c d x K P by rw [EP.out, hP])
    clear e3 hP
    go_wp2
    obtain ⟨v0, hv0⟩ : ∃ v, v = w2.alloc (.cells #[.int .i64 (cst a b c d x K).1, .bool (cst a b c d x K).2] 55) := ⟨_, rfl⟩
    rw [← hv0]
    have nv : New w2 v0 := by rw [hv0]; exact (by repeat (first | with_reducible exact New.refl _ | with_reducible assumption | refine New.drewN ?_ _ | refine New.drew ?_ | refine New.alloc ?_ _ | refine New.setCell ?_ (by first | omega | (simp; omega) | (simp; done)) _ | (refine New.trans ?_ (by assumption))))
    have RR : RunR v0 v0 w2.heap.size (w2.heap.size + 1) 3 55 (.int .i64 (cst a b c d x (K + 0)).1) (.bool (cst a b c d x (K + 0)).2) (.slice none 0 0) 0 [] (.slice none 0 0) 0 [] := by
      refine ⟨Below.refl _ _, by omega, by rw [hv0]; simp [go_sem], by rw [hv0]; simp [go_sem], by rw [hv0]; simp [go_sem], by rw [hv0]; simp [go_sem], World.ownsRow_nil _ _ _ _, World.ownsRow_nil _ _ _ _, fun g e => by simp [Value.ownBlock] at e⟩
    have PV := Lib.hid (And.intro (nv.cell PP.out.1) (And.intro (nv.cell PP.out.2.1) (And.intro (nv.cell PP.out.2.2.1) (nv.cell PP.out.2.2.2))))
    have NV := Lib.hid (N2.out.trans nv); clear nv
    have RR0 := Lib.hid RR; clear RR
    clear hv0
    go_loopw [9] (fun i wr => ∃ j : Nat, j ≤ P ∧ i = .int .i64 j ∧ (∀ q, q < j → (cst a b c d x (K + q)).2 = true) ∧
      RunR v0 wr w2.heap.size (w2.heap.size + 1) 3 55 (.int .i64 (cst a b c d x (K + j)).1) (.bool (cst a b c d x (K + j)).2) (.slice none 0 0) 0 [] (.slice none 0 0) 0 []) (fun i _ => P - (intOf i).toNat)
    case atStart => exact ⟨0, Nat.zero_le _, rfl, fun q hq => absurd hq (by omega), RR0.out⟩
    case round =>
      obtain ⟨j, hj, rfl, hpre, hrr⟩ := hrel
      have HP := Lib.hid hpre; clear hpre
      have RR := Lib.hid hrr; clear hrr
      have NW := Lib.hid (RR.out.since NV.out (by omega))
      have sb := cst_bd (a := a) (b := b) (c := c) (d := d) HO.out x0 (K + j)
      obtain ⟨sb0, sb1⟩ := sb
      by_cases hlt : j < P
      · have l0 := RR.out.c0
        have l1 := RR.out.c1
        have p0 := RR.out.old PV.out.1 (by simp; omega)
        have p1 := RR.out.old PV.out.2.1 (by simp; omega)
        have p2 := RR.out.old PV.out.2.2.1 (by simp; omega)
        have p3 := RR.out.old PV.out.2.2.2 (by simp; omega)
        by_cases hr : (cst a b c d x (K + j)).2 = true
        · go_wp2_with fail
          refine (siTick_any _ _ _ _ _ _ _ _ HO.out sb0 sb1 x0 x1).mono ?_
          rintro e w3 ⟨rfl, n3⟩
          replace l0 := n3.cell l0
          replace l1 := n3.cell l1
          have f0 := n3.frz RR.out.c0 RR.out.f0
          have f1 := n3.frz RR.out.c1 RR.out.f1
          have RR1 := Lib.hid (RR.out.kept n3); clear n3 p0 p1 p2 p3
          have HR := Lib.hid hr; clear hr
          go_wp2
          go_roundw
          case rel =>
            have e1 : cst a b c d x (K + (j + 1)) = (tkH a b c d (cst a b c d x (K + j)).1 x true, tkR a b c d (cst a b c d x (K + j)).1 x true) := by
              show (tkH a b c d (cst a b c d x (K + j)).1 x (cst a b c d x (K + j)).2, tkR a b c d (cst a b c d x (K + j)).1 x (cst a b c d x (K + j)).2) = _
              rw [HR.out]
            refine ⟨j + 1, by omega, by go_num, fun q hq => ?_, by rw [e1]; exact RR1.out.put _ _⟩
            by_cases e : q = j
            · subst e; exact HR.out
            · exact HP.out q (by omega)
          case measure => simp [intOf]; omega
        · have hr' : (cst a b c d x (K + j)).2 = false := by simpa using hr
          have HF := Lib.hid (runsTo_false (a := a) (b := b) (c := c) (d := d) (x := x) hlt hr')
          clear hr
          go_wp2
          go_ret2
          exact ⟨by rw [EQ.out, HSS.out, HF.out]; rfl, NW.out⟩
      · obtain rfl : j = P := by omega
        have HT := Lib.hid (runsTo_true (a := a) (b := b) (c := c) (d := d) (x := x) HP.out)
        go_wp2
        go_ret2
        exact ⟨by rw [EQ.out, HSS.out, HT.out]; rfl, NW.out⟩
  · have hf : steadyB a b c d x = false := by simpa using hs
    go_enter Try.func19, Try.ntmps19
    go_wp2_with fail
    refine (siSteady_any _ _ _ _ _ _).mono ?_
    rintro e w1 ⟨rfl, n1⟩
    have b0 : w1.cell? ⟨w.heap.size, 0, none⟩ = some (.int .i64 a) := n1.cell (by simp [go_sem])
    have b1 : w1.cell? ⟨w.heap.size, 1, none⟩ = some (.int .i64 b) := n1.cell (by simp [go_sem])
    have b2 : w1.cell? ⟨w.heap.size, 2, none⟩ = some (.int .i64 c) := n1.cell (by simp [go_sem])
    have b3 : w1.cell? ⟨w.heap.size, 3, none⟩ = some (.int .i64 d) := n1.cell (by simp [go_sem])
    have N1 := Lib.hid (show New w w1 from New.trans (by repeat (first | with_reducible exact New.refl _ | with_reducible assumption | refine New.drewN ?_ _ | refine New.drew ?_ | refine New.alloc ?_ _ | refine New.setCell ?_ (by first | omega | (simp; omega) | (simp; done)) _ | (refine New.trans ?_ (by assumption)))) n1); clear n1
    go_wp2
    go_ret2
    exact ⟨by unfold neverM; rw [hf]; rfl, N1.out⟩
end Go.Proofs.Ytafiihhiipfejaa
