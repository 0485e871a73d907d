/- The period of a chain and of a siphon, by the program. -/
import Derived.Test.YtafiihhiipfejaaRound
import Derived.Test.YtafiihhiipfejaaMeetS
namespace Go.Proofs.Ytafiihhiipfejaa
open Go.RowKit Go.Maps

theorem meet_ex {α : Type} (F : Nat → α) (m : Nat) : (∀ i j, i < j → j < m → F i ≠ F j) ∨ ∃ n k, Meets F n k ∧ n < m := by
  induction m with
  | zero => exact .inl fun i j _ hj => absurd hj (by omega)
  | succ m ih =>
    rcases ih with h | ⟨n, k, h, hn⟩
    · by_cases e : ∃ k, k < m ∧ F k = F m
      · obtain ⟨k, hk, e⟩ := e
        exact .inr ⟨m, k, ⟨h, hk, e⟩, by omega⟩
      · refine .inl fun i j hij hj q => ?_
        by_cases e2 : j = m
        · subst e2; exact e ⟨i, hij, q⟩
        · exact h i j hij (by omega) q
    · exact .inr ⟨n, k, h, by omega⟩
theorem per_ex {a b c d x : Int} (hs : SipOk a b c d) (x0 : 0 ≤ x) : Meets (cst a b c d x) (perN a b c d x) (perK a b c d x) ∧ perN a b c d x ≤ 122 := by
  rcases meet_ex (cst a b c d x) 123 with h | ⟨n, k, h, hn⟩
  · have := cst_few hs x0 h
    omega
  · obtain ⟨e1, e2⟩ := per_is h (by omega)
    rw [e1, e2]
    exact ⟨h, by omega⟩
theorem chainB_one (a b c d : Int) : chainB [(a, b, c, d)] = sipB a b c d := by
  by_cases h : sipB a b c d = true
  · rw [h]; exact chainB_iff.2 (chain_one (sipB_iff.1 h))
  · have hf : sipB a b c d = false := by simpa using h
    rw [hf]
    exact chainB_false.2 fun hc => h (hc.2 0 (by simp))

abbrev zero9 : List Value := [.map none, .int .i64 0, .bool false, .int .i64 0, .bool false, .int .i64 0, .bool false, .int .i64 0, .bool false]
abbrev round0 : Value := .agg #[.map none, .int .i64 0, .bool false, .int .i64 0, .bool false, .int .i64 0, .bool false, .int .i64 0, .bool false]
theorem zero9_one : (zero9.toArray.all fun x => x.oneCell') = true :=
  all_oneCell_toArray (by intro v hv; simp at hv; rcases hv with rfl | rfl | rfl | rfl | rfl | rfl | rfl | rfl | rfl <;> rfl)
theorem res_round0 {tmps : Array Value} {W : World} {R : Nat} {b : Bool} (ht : tmps[4]?.getD undef = .pointer (some ⟨R, 0, none⟩)) (hb : tmps[5]?.getD undef = .bool b) (h : W.rangeAt R 0 zero9) :
    (results Try.f36 tmps).run Try.prog W = .ok (.tuple #[round0, .bool b]) W := by
  have e : ∀ j v, zero9[j]? = some v → W.cell? ⟨R, j, none⟩ = some v := fun j v hv => by
    have := h j v hv
    simpa using this
  have d0 := e 0 _ rfl
  have d1 := e 1 _ rfl
  have d2 := e 2 _ rfl
  have d3 := e 3 _ rfl
  have d4 := e 4 _ rfl
  have d5 := e 5 _ rfl
  have d6 := e 6 _ rfl
  have d7 := e 7 _ rfl
  have d8 := e 8 _ rfl
  simp [results, Try.results36, go_sem, ht, hb, d0, d1, d2, d3, d4, d5, d6, d7, d8]

set_option maxRecDepth 100000 in
set_option maxHeartbeats 2000000 in
theorem roundOf_bad (w : World) (aa : Option Addr) (n ca : Nat) (l : List (Int × Int × Int × Int)) (x : Int) (ha : Siphons w aa n ca l) (hb : (chainB l && inB 0 60 x) = false) :
    Calls Try.prog 36 #[.slice aa n ca, .int .i64 x] w fun e w' => e = .returned (.tuple #[round0, .bool false]) ∧ New w w' := by
  have HA := Lib.hid ha; clear ha
  by_cases hc : chainB l = true
  · have hx : inB 0 60 x = false := by rw [hc] at hb; simpa using hb
    clear hb
    go_enter Try.func36, Try.ntmps36
    go_wp2_with fail
    refine (isChain_any _ _ _ _ l (HA.out.new (by repeat (first | with_reducible exact New.refl _ | with_reducible assumption | refine New.drewN ?_ _ | refine New.drew ?_ | refine New.alloc ?_ _ | refine New.setCell ?_ (by first | omega | (simp; omega) | (simp; done)) _ | (refine New.trans ?_ (by assumption)))))).mono ?_
    rintro e w1 ⟨rfl, n1⟩
    have th : w1.there w.heap.size 0 9 := by
      intro j hj
      rw [Nat.zero_add]
      match j, hj with
      | 0, _ => exact ⟨by rw [n1.cell (p := ⟨w.heap.size, 0, none⟩) (v := .map none) (by simp [go_sem])]; rfl, n1.frz (v := .map none) (by simp [go_sem]) (by simp [go_sem])⟩
      | 1, _ => exact ⟨by rw [n1.cell (p := ⟨w.heap.size, 1, none⟩) (v := .int .i64 0) (by simp [go_sem])]; rfl, n1.frz (v := .int .i64 0) (by simp [go_sem]) (by simp [go_sem])⟩
      | 2, _ => exact ⟨by rw [n1.cell (p := ⟨w.heap.size, 2, none⟩) (v := .bool false) (by simp [go_sem])]; rfl, n1.frz (v := .bool false) (by simp [go_sem]) (by simp [go_sem])⟩
      | 3, _ => exact ⟨by rw [n1.cell (p := ⟨w.heap.size, 3, none⟩) (v := .int .i64 0) (by simp [go_sem])]; rfl, n1.frz (v := .int .i64 0) (by simp [go_sem]) (by simp [go_sem])⟩
      | 4, _ => exact ⟨by rw [n1.cell (p := ⟨w.heap.size, 4, none⟩) (v := .bool false) (by simp [go_sem])]; rfl, n1.frz (v := .bool false) (by simp [go_sem]) (by simp [go_sem])⟩
      | 5, _ => exact ⟨by rw [n1.cell (p := ⟨w.heap.size, 5, none⟩) (v := .int .i64 0) (by simp [go_sem])]; rfl, n1.frz (v := .int .i64 0) (by simp [go_sem]) (by simp [go_sem])⟩
      | 6, _ => exact ⟨by rw [n1.cell (p := ⟨w.heap.size, 6, none⟩) (v := .bool false) (by simp [go_sem])]; rfl, n1.frz (v := .bool false) (by simp [go_sem]) (by simp [go_sem])⟩
      | 7, _ => exact ⟨by rw [n1.cell (p := ⟨w.heap.size, 7, none⟩) (v := .int .i64 0) (by simp [go_sem])]; rfl, n1.frz (v := .int .i64 0) (by simp [go_sem]) (by simp [go_sem])⟩
      | 8, _ => exact ⟨by rw [n1.cell (p := ⟨w.heap.size, 8, none⟩) (v := .bool false) (by simp [go_sem])]; rfl, n1.frz (v := .bool false) (by simp [go_sem]) (by simp [go_sem])⟩
    have N1 := Lib.hid (show New w w1 from New.trans (by repeat (first | with_reducible exact New.refl _ | with_reducible assumption | refine New.drewN ?_ _ | refine New.drew ?_ | refine New.alloc ?_ _ | refine New.setCell ?_ (by first | omega | (simp; omega) | (simp; done)) _ | (refine New.trans ?_ (by assumption)))) n1); clear n1
    go_wp2_with fail
    refine (isInflow_any _ _).mono ?_
    rintro e w9 ⟨rfl, rfl⟩
    go_wp2_with (first
      | (refine wpList_store_mid rfl 64 (.tmp 4) (.tmp 19) rfl w.heap.size 0 zero9.toArray rfl rfl th (by kernel_rfl) zero9_one ?_; obtain ⟨w4, hw4⟩ : ∃ w4, w4 = w1.setCells w.heap.size 0 zero9.toArray.toList := ⟨_, rfl⟩; rw [← hw4]; have HW4 := Lib.hid hw4; clear hw4))
    have NF := Lib.hid (show New w w4 by rw [HW4.out]; exact New.setCells N1.out (Nat.le_refl _) _ _)
    refine bodyPost_ret (v := .tuple #[round0, .bool false]) ?_ rfl ⟨rfl, NF.out⟩
    refine res_round0 rfl rfl ?_
    rw [HW4.out]
    exact World.rangeAt_setCells_same w1 w.heap.size 0 _ th
  · have hc' : chainB l = false := by simpa using hc
    clear hb hc
    go_enter Try.func36, Try.ntmps36
    go_wp2_with fail
    refine (isChain_any _ _ _ _ l (HA.out.new (by repeat (first | with_reducible exact New.refl _ | with_reducible assumption | refine New.drewN ?_ _ | refine New.drew ?_ | refine New.alloc ?_ _ | refine New.setCell ?_ (by first | omega | (simp; omega) | (simp; done)) _ | (refine New.trans ?_ (by assumption)))))).mono ?_
    rintro e w1 ⟨rfl, n1⟩
    have th : w1.there w.heap.size 0 9 := by
      intro j hj
      rw [Nat.zero_add]
      match j, hj with
      | 0, _ => exact ⟨by rw [n1.cell (p := ⟨w.heap.size, 0, none⟩) (v := .map none) (by simp [go_sem])]; rfl, n1.frz (v := .map none) (by simp [go_sem]) (by simp [go_sem])⟩
      | 1, _ => exact ⟨by rw [n1.cell (p := ⟨w.heap.size, 1, none⟩) (v := .int .i64 0) (by simp [go_sem])]; rfl, n1.frz (v := .int .i64 0) (by simp [go_sem]) (by simp [go_sem])⟩
      | 2, _ => exact ⟨by rw [n1.cell (p := ⟨w.heap.size, 2, none⟩) (v := .bool false) (by simp [go_sem])]; rfl, n1.frz (v := .bool false) (by simp [go_sem]) (by simp [go_sem])⟩
      | 3, _ => exact ⟨by rw [n1.cell (p := ⟨w.heap.size, 3, none⟩) (v := .int .i64 0) (by simp [go_sem])]; rfl, n1.frz (v := .int .i64 0) (by simp [go_sem]) (by simp [go_sem])⟩
      | 4, _ => exact ⟨by rw [n1.cell (p := ⟨w.heap.size, 4, none⟩) (v := .bool false) (by simp [go_sem])]; rfl, n1.frz (v := .bool false) (by simp [go_sem]) (by simp [go_sem])⟩
      | 5, _ => exact ⟨by rw [n1.cell (p := ⟨w.heap.size, 5, none⟩) (v := .int .i64 0) (by simp [go_sem])]; rfl, n1.frz (v := .int .i64 0) (by simp [go_sem]) (by simp [go_sem])⟩
      | 6, _ => exact ⟨by rw [n1.cell (p := ⟨w.heap.size, 6, none⟩) (v := .bool false) (by simp [go_sem])]; rfl, n1.frz (v := .bool false) (by simp [go_sem]) (by simp [go_sem])⟩
      | 7, _ => exact ⟨by rw [n1.cell (p := ⟨w.heap.size, 7, none⟩) (v := .int .i64 0) (by simp [go_sem])]; rfl, n1.frz (v := .int .i64 0) (by simp [go_sem]) (by simp [go_sem])⟩
      | 8, _ => exact ⟨by rw [n1.cell (p := ⟨w.heap.size, 8, none⟩) (v := .bool false) (by simp [go_sem])]; rfl, n1.frz (v := .bool false) (by simp [go_sem]) (by simp [go_sem])⟩
    have N1 := Lib.hid (show New w w1 from New.trans (by repeat (first | with_reducible exact New.refl _ | with_reducible assumption | refine New.drewN ?_ _ | refine New.drew ?_ | refine New.alloc ?_ _ | refine New.setCell ?_ (by first | omega | (simp; omega) | (simp; done)) _ | (refine New.trans ?_ (by assumption)))) n1); clear n1
    go_wp2_with (first
      | (refine wpList_store_mid rfl 64 (.tmp 4) (.tmp 19) rfl w.heap.size 0 zero9.toArray rfl rfl th (by kernel_rfl) zero9_one ?_; obtain ⟨w4, hw4⟩ : ∃ w4, w4 = w1.setCells w.heap.size 0 zero9.toArray.toList := ⟨_, rfl⟩; rw [← hw4]; have HW4 := Lib.hid hw4; clear hw4))
    have NF := Lib.hid (show New w w4 by rw [HW4.out]; exact New.setCells N1.out (Nat.le_refl _) _ _)
    refine bodyPost_ret (v := .tuple #[round0, .bool false]) ?_ rfl ⟨rfl, NF.out⟩
    refine res_round0 rfl rfl ?_
    rw [HW4.out]
    exact World.rangeAt_setCells_same w1 w.heap.size 0 _ th

set_option maxRecDepth 100000 in
set_option maxHeartbeats 4000000 in
theorem iPeriodOfChain_yes {kf : List (Int × Bool) → Lit} (hkf : KeyFn kf) (w : World) (aa : Option Addr) (n ca : Nat) (l : List (Int × Int × Int × Int)) (x : Int) (N K : Nat) (ha : Siphons w aa n ca l) (hc : chainB l = true) (hx : inB 0 60 x = true) (hm : Meets (chSt l x) N K) (hN : N ≤ 5000) :
    Calls Try.prog 32 #[.slice aa n ca, .int .i64 x] w fun e w' => e = .returned (.tuple #[.int .i64 K, .int .i64 ((N : Int) - K), .bool true]) ∧ New w w' := by
  obtain ⟨x0, x1⟩ := inB_iff.1 hx
  have KN : K < N := hm.2.1
  have HK := Lib.hid (hkf (chSt l x K) (chSt_ok (x := x) (chainB_iff.1 hc) x0 x1 K).2.2)
  go_enter Try.func32, Try.ntmps32
  go_wp2_with fail
  refine (roundOf_yes hkf _ _ _ _ l x N K ha hc hx hm hN).mono ?_
  rintro e w1 ⟨B, D, rfl, hB, ho, ht, n1⟩
  clear hc hx hm ha
  have HO := Lib.hid ho; clear ho
  have HT := Lib.hid ht; clear ht
  have N1 := Lib.hid n1; clear n1
  have th : (w1.alloc (.cells #[.map none, .int .i64 0, .bool false, .int .i64 0, .bool false, .int .i64 0, .bool false, .int .i64 0, .bool false] 64)).there w1.heap.size 0 9 := by
    intro j hj
    rw [Nat.zero_add]
    match j, hj with
    | 0, _ => exact ⟨by simp [go_sem], by simp [go_sem]⟩
    | 1, _ => exact ⟨by simp [go_sem], by simp [go_sem]⟩
    | 2, _ => exact ⟨by simp [go_sem], by simp [go_sem]⟩
    | 3, _ => exact ⟨by simp [go_sem], by simp [go_sem]⟩
    | 4, _ => exact ⟨by simp [go_sem], by simp [go_sem]⟩
    | 5, _ => exact ⟨by simp [go_sem], by simp [go_sem]⟩
    | 6, _ => exact ⟨by simp [go_sem], by simp [go_sem]⟩
    | 7, _ => exact ⟨by simp [go_sem], by simp [go_sem]⟩
    | 8, _ => exact ⟨by simp [go_sem], by simp [go_sem]⟩
  go_wp2_with (refine wpList_store_mid rfl 64 (.tmp 7) (.tmp 13) rfl w1.heap.size 0 (roundC B (chSt l x K)).toArray rfl rfl th (by kernel_rfl) (roundC_one _ _) ?_; obtain ⟨w2, hw2⟩ : ∃ w2, w2 = (w1.alloc (.cells #[.map none, .int .i64 0, .bool false, .int .i64 0, .bool false, .int .i64 0, .bool false, .int .i64 0, .bool false] 64)).setCells w1.heap.size 0 (roundC B (chSt l x K)).toArray.toList := ⟨_, rfl⟩; rw [← hw2]; have HW2 := Lib.hid hw2; clear hw2)
  have rg : w2.rangeAt w1.heap.size 0 (roundC B (chSt l x K)) := by rw [HW2.out]; exact World.rangeAt_setCells_same _ w1.heap.size 0 _ th
  have e : ∀ j v, (roundC B (chSt l x K))[j]? = some v → w2.cell? ⟨w1.heap.size, j, none⟩ = some v := fun j v hv => by
    have := rg j v hv
    simpa using this
  have d0 : w2.cell? ⟨w1.heap.size, 0, none⟩ = some (.map (some B)) := e 0 _ rfl
  have d1 : w2.cell? ⟨w1.heap.size, 1, none⟩ = some (.int .i64 (lvAt (chSt l x K) 0).1) := e 1 _ rfl
  have d2 : w2.cell? ⟨w1.heap.size, 2, none⟩ = some (.bool (lvAt (chSt l x K) 0).2) := e 2 _ rfl
  have d3 : w2.cell? ⟨w1.heap.size, 3, none⟩ = some (.int .i64 (lvAt (chSt l x K) 1).1) := e 3 _ rfl
  have d4 : w2.cell? ⟨w1.heap.size, 4, none⟩ = some (.bool (lvAt (chSt l x K) 1).2) := e 4 _ rfl
  have d5 : w2.cell? ⟨w1.heap.size, 5, none⟩ = some (.int .i64 (lvAt (chSt l x K) 2).1) := e 5 _ rfl
  have d6 : w2.cell? ⟨w1.heap.size, 6, none⟩ = some (.bool (lvAt (chSt l x K) 2).2) := e 6 _ rfl
  have d7 : w2.cell? ⟨w1.heap.size, 7, none⟩ = some (.int .i64 (lvAt (chSt l x K) 3).1) := e 7 _ rfl
  have d8 : w2.cell? ⟨w1.heap.size, 8, none⟩ = some (.bool (lvAt (chSt l x K) 3).2) := e 8 _ rfl
  clear e rg th
  have NF := Lib.hid (show New w w2 by rw [HW2.out]; exact New.setCells (N1.out.alloc _) (by have := N1.out.size; omega) _ _)
  have zB : B < w1.heap.size := by
    obtain ⟨es, clock, hb, _⟩ := HO.out
    exact (Array.getElem?_eq_some_iff.1 hb).1
  have ho2 : w2.ownsMap Try.prog 62 (plainElem Try.prog 3) B N D := by
    rw [HW2.out]
    refine ownsMap_of_block HO.out ((heap_setCells_other (by omega) _ _ _).trans ?_)
    exact ((New.refl w1).alloc _).block B zB
  have hrun : ∀ q, (Instr.lookup 60 (.map (some B)) (.agg #[.int .i64 (lvAt (chSt l x K) 0).1, .bool (lvAt (chSt l x K) 0).2, .int .i64 (lvAt (chSt l x K) 1).1, .bool (lvAt (chSt l x K) 1).2, .int .i64 (lvAt (chSt l x K) 2).1, .bool (lvAt (chSt l x K) 2).2, .int .i64 (lvAt (chSt l x K) 3).1, .bool (lvAt (chSt l x K) 3).2]) false).run Try.prog (w2.drewN q) = .ok (.int .i64 K) (w2.drewN q) := fun q => by
    have hq : (w2.drewN q).ownsMap Try.prog 62 (plainElem Try.prog 3) B N D := ownsMap_of_block ho2 (by simp)
    obtain ⟨c, hr, hat, _⟩ := hq.lookup_int chLaw Try.underlying60 Try.underlying3 (by first | kernel_rfl | rfl | simp [go_sem]) HK.out
    have hc : c = K := by
      rw [HT.out.at_ K _ KN (decide_eq_true (Nat.le_refl _))] at hat
      simp at hat; omega
    subst hc
    exact hr
  have hlen : ∀ q ty, (Builtin.len_ #[60] ty #[.map (some B)]).run Try.prog (w2.drewN q) = .ok (.int .i64 ((N : Int) - K)) (w2.drewN q) := fun q ty => by
    have hq : (w2.drewN q).ownsMap Try.prog 62 (plainElem Try.prog 3) B N D := ownsMap_of_block ho2 (by simp)
    have hl := hq.len (ty := ty) Try.underlying60
    rw [HT.out.size, cntOf_from K N (Nat.le_of_lt KN)] at hl
    rw [hl, Int.ofNat_sub (Nat.le_of_lt KN)]
  clear ho2
  go_quiet (fail)
  go_wp2
  go_ret3
  exact ⟨rfl, NF.out.drewN _⟩

set_option maxRecDepth 100000 in
set_option maxHeartbeats 4000000 in
theorem iPeriodOfChain_bad (w : World) (aa : Option Addr) (n ca : Nat) (l : List (Int × Int × Int × Int)) (x : Int) (ha : Siphons w aa n ca l) (hb : (chainB l && inB 0 60 x) = false) :
    Calls Try.prog 32 #[.slice aa n ca, .int .i64 x] w fun e w' => e = .returned (.tuple #[.int .i64 0, .int .i64 0, .bool false]) ∧ New w w' := by
  obtain ⟨kl, hkl⟩ := keyOf_four zero4 (fun i => by
    match i with
    | 0 => exact ⟨Int.le_refl _, by decide⟩
    | 1 => exact ⟨Int.le_refl _, by decide⟩
    | 2 => exact ⟨Int.le_refl _, by decide⟩
    | 3 => exact ⟨Int.le_refl _, by decide⟩
    | i + 4 => exact ⟨Int.le_refl _, show (0 : Int) ≤ 60 by decide⟩)
  have HK := Lib.hid hkl; clear hkl
  go_enter Try.func32, Try.ntmps32
  go_wp2_with fail
  refine (roundOf_bad _ _ _ _ l x ha hb).mono ?_
  rintro e w1 ⟨rfl, n1⟩
  clear ha hb
  have N1 := Lib.hid n1; clear n1
  have th : (w1.alloc (.cells #[.map none, .int .i64 0, .bool false, .int .i64 0, .bool false, .int .i64 0, .bool false, .int .i64 0, .bool false] 64)).there w1.heap.size 0 9 := by
    intro j hj
    rw [Nat.zero_add]
    match j, hj with
    | 0, _ => exact ⟨by simp [go_sem], by simp [go_sem]⟩
    | 1, _ => exact ⟨by simp [go_sem], by simp [go_sem]⟩
    | 2, _ => exact ⟨by simp [go_sem], by simp [go_sem]⟩
    | 3, _ => exact ⟨by simp [go_sem], by simp [go_sem]⟩
    | 4, _ => exact ⟨by simp [go_sem], by simp [go_sem]⟩
    | 5, _ => exact ⟨by simp [go_sem], by simp [go_sem]⟩
    | 6, _ => exact ⟨by simp [go_sem], by simp [go_sem]⟩
    | 7, _ => exact ⟨by simp [go_sem], by simp [go_sem]⟩
    | 8, _ => exact ⟨by simp [go_sem], by simp [go_sem]⟩
  go_wp2_with (refine wpList_store_mid rfl 64 (.tmp 7) (.tmp 13) rfl w1.heap.size 0 zero9.toArray rfl rfl th (by kernel_rfl) zero9_one ?_; obtain ⟨w2, hw2⟩ : ∃ w2, w2 = (w1.alloc (.cells #[.map none, .int .i64 0, .bool false, .int .i64 0, .bool false, .int .i64 0, .bool false, .int .i64 0, .bool false] 64)).setCells w1.heap.size 0 zero9.toArray.toList := ⟨_, rfl⟩; rw [← hw2]; have HW2 := Lib.hid hw2; clear hw2)
  have rg : w2.rangeAt w1.heap.size 0 zero9 := by rw [HW2.out]; exact World.rangeAt_setCells_same _ w1.heap.size 0 _ th
  have e : ∀ j v, zero9[j]? = some v → w2.cell? ⟨w1.heap.size, j, none⟩ = some v := fun j v hv => by
    have := rg j v hv
    simpa using this
  have d0 : w2.cell? ⟨w1.heap.size, 0, none⟩ = some (.map none) := e 0 _ rfl
  have d1 : w2.cell? ⟨w1.heap.size, 1, none⟩ = some (.int .i64 0) := e 1 _ rfl
  have d2 : w2.cell? ⟨w1.heap.size, 2, none⟩ = some (.bool false) := e 2 _ rfl
  have d3 : w2.cell? ⟨w1.heap.size, 3, none⟩ = some (.int .i64 0) := e 3 _ rfl
  have d4 : w2.cell? ⟨w1.heap.size, 4, none⟩ = some (.bool false) := e 4 _ rfl
  have d5 : w2.cell? ⟨w1.heap.size, 5, none⟩ = some (.int .i64 0) := e 5 _ rfl
  have d6 : w2.cell? ⟨w1.heap.size, 6, none⟩ = some (.bool false) := e 6 _ rfl
  have d7 : w2.cell? ⟨w1.heap.size, 7, none⟩ = some (.int .i64 0) := e 7 _ rfl
  have d8 : w2.cell? ⟨w1.heap.size, 8, none⟩ = some (.bool false) := e 8 _ rfl
  clear e rg th
  have NF := Lib.hid (show New w w2 by rw [HW2.out]; exact New.setCells (N1.out.alloc _) (by have := N1.out.size; omega) _ _)
  have hrun : ∀ q, (Instr.lookup 60 (.map none) (.agg #[.int .i64 0, .bool false, .int .i64 0, .bool false, .int .i64 0, .bool false, .int .i64 0, .bool false]) false).run Try.prog (w2.drewN q) = .ok (.int .i64 0) (w2.drewN q) := fun q => by
    have hl := Maps.look_nil (w := w2.drewN q) false chLaw Try.underlying60 (z := .int .i64 0) (by first | kernel_rfl | rfl | simp [go_sem]) HK.out
    exact hl
  have hlen : ∀ q ty, (Builtin.len_ #[60] ty #[.map none]).run Try.prog (w2.drewN q) = .ok (.int .i64 0) (w2.drewN q) := fun q ty => Maps.len_nil Try.underlying60 ty
  clear HK
  go_quiet (fail)
  go_wp2
  go_ret3
  exact ⟨rfl, NF.out.drewN _⟩

theorem lit4_reads (w : World) (a b c d : Int) (t : TypeId) {B : Nat} (hB : w.heap.size = B) : Siphons (w.alloc (.cells #[.int .i64 a, .int .i64 b, .int .i64 c, .int .i64 d] t)) (some ⟨B, 0, none⟩) 1 1 [(a, b, c, d)] := by
  subst hB
  exact ⟨rfl, Nat.le_refl _, by omega, fun j hj => by
    obtain rfl : j = 0 := by omega
    exact ⟨w.heap.size, 0, rfl, by simp [go_sem], by simp [go_sem], by simp [go_sem], by simp [go_sem]⟩, fun e => by cases e⟩

set_option maxHeartbeats 2000000 in
theorem iPeriodOfSiphon_any (w : World) (a b c d x : Int) :
    Calls Try.prog 11 #[sipV a b c d, .int .i64 x] w fun e w' => e = .returned (.tuple #[.int .i64 (startM a b c d x), .int .i64 (periodM a b c d x), .bool (steadyB a b c d x)]) ∧ New w w' := by
  by_cases hs : steadyB a b c d x = true
  · obtain ⟨ho, x0, x1⟩ := steadyB_iff.1 hs
    obtain ⟨kf, hkf⟩ := keyFn_ex
    obtain ⟨hm, hn⟩ := per_ex (x := x) ho x0
    have EE := Lib.hid (show startM a b c d x = (perK a b c d x : Int) ∧ periodM a b c d x = (perN a b c d x : Int) - perK a b c d x by unfold startM periodM; rw [if_pos hs, if_pos hs]; exact ⟨rfl, rfl⟩)
    have HS := Lib.hid hs; clear hs
    have HM := Lib.hid (meets_one.2 hm); clear hm
    go_enter Try.func11, Try.ntmps11
    go_wp2_with fail
    refine (iPeriodOfChain_yes hkf _ _ _ _ [(a, b, c, d)] x _ _ (lit4_reads _ _ _ _ _ _ (by simp)) (by rw [chainB_one]; exact sipB_iff.2 ho) (inB_iff.2 ⟨x0, x1⟩) HM.out (by omega)).mono ?_
    rintro e w2 ⟨rfl, n2⟩
    have N2 := Lib.hid (show New w w2 from New.trans (by repeat (first | with_reducible exact New.refl _ | with_reducible assumption | refine New.drewN ?_ _ | refine New.drew ?_ | refine New.alloc ?_ _ | refine New.setCell ?_ (by first | omega | (simp; omega) | (simp; done)) _ | (refine New.trans ?_ (by assumption)))) n2); clear n2
    go_wp2
    go_ret3
    exact ⟨by rw [EE.out.1, EE.out.2, HS.out]; rfl, N2.out⟩
  · have hf : steadyB a b c d x = false := by simpa using hs
    have EE := Lib.hid (show startM a b c d x = 0 ∧ periodM a b c d x = 0 by unfold startM periodM; rw [if_neg hs, if_neg hs]; exact ⟨rfl, rfl⟩)
    have HF := Lib.hid hf; clear hf hs
    go_enter Try.func11, Try.ntmps11
    go_wp2_with fail
    refine (iPeriodOfChain_bad _ _ _ _ [(a, b, c, d)] x (lit4_reads _ _ _ _ _ _ (by simp)) (by rw [chainB_one]; exact HF.out)).mono ?_
    rintro e w2 ⟨rfl, n2⟩
    have N2 := Lib.hid (show New w w2 from New.trans (by repeat (first | with_reducible exact New.refl _ | with_reducible assumption | refine New.drewN ?_ _ | refine New.drew ?_ | refine New.alloc ?_ _ | refine New.setCell ?_ (by first | omega | (simp; omega) | (simp; done)) _ | (refine New.trans ?_ (by assumption)))) n2); clear n2
    go_wp2
    go_ret3
    exact ⟨by rw [EE.out.1, EE.out.2, HF.out]; rfl, N2.out⟩
end Go.Proofs.Ytafiihhiipfejaa
