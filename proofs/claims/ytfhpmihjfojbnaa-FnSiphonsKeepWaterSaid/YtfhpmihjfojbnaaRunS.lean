/- The model's functions on a siphon and many ticks. -/
import Derived.Test.YtfhpmihjfojbnaaSipS
import Derived.Test.YtfhpmihjfojbnaaRun
import Derived.Test.YtfhpmihjfojbnaaRows2b
namespace Go.Proofs.Ytfhpmihjfojbnaa
open Go.RowKit

theorem l1All_any (w : World) (aa : Option Addr) (n ca : Nat) (l : List Int) (lo hi : Int) (ha : Ints w aa n ca l) :
    Calls Try.prog 69 #[.slice aa n ca, .int .i64 lo, .int .i64 hi] w fun e w' => e = .returned (.bool (allB lo hi l)) ∧ w = w' := by
  have HA := Lib.hid ha; clear ha
  have hm := HA.out.2.2.1
  go_enter Try.func69, Try.ntmps69
  go_wp2
  go_loop [11] (fun i => ∃ k : Nat, k ≤ n ∧ i = .int .i64 k ∧ ∀ j, j < k → inB lo hi (l[j]?.getD 0) = true) (fun i => n - (intOf i).toNat)
  case atStart => exact ⟨0, Nat.zero_le _, rfl, fun j hj => absurd hj (by omega)⟩
  case round =>
    obtain ⟨k, hk, rfl, hpre⟩ := hrel
    have HP := Lib.hid hpre; clear hpre
    by_cases hlt : k < n
    · obtain ⟨b, o, rfl, hc, _⟩ := HA.out.at hlt
      go_wp2_with (go_at_call 73; refine (l1In_any _ _ _ _).mono ?_; rintro e w' ⟨rfl, rfl⟩)
      · have hb : inB lo hi (l[k]?.getD 0) = false := by rw [← Bool.not_eq_true']; assumption
        go_ret
        refine ⟨ret_bool ?_, rfl⟩
        symm
        rw [← Bool.not_eq_true, allB_iff]
        intro h
        rw [inB_false] at hb
        exact hb (h k (by have := HA.out.len; omega))
      · have hb : inB lo hi (l[k]?.getD 0) = true := by rw [← Bool.not_eq_false']; assumption
        go_round
        case rel =>
          refine ⟨k + 1, by omega, by go_num, fun j hj => ?_⟩
          by_cases e : j = k
          · subst e; exact hb
          · exact HP.out j (by omega)
        case measure => simp [intOf]; omega
    · go_wp2
      go_ret
      refine ⟨ret_bool ?_, rfl⟩
      symm
      rw [allB_iff]
      intro j hj
      exact inB_iff.1 (HP.out j (by have := HA.out.len; omega))

theorem siAsked_any (w : World) (a b c d u : Int) (r : Bool) (aa : Option Addr) (n ca : Nat) (xs : List Int) (hx : Ints w aa n ca xs) :
    Calls Try.prog 48 #[sipV a b c d, levV u r, .slice aa n ca] w fun e w' => e = .returned (.bool (runB a b c d u xs)) ∧ New w w' := by
  have hm := hx.2.2.1
  have HX := Lib.hid hx; clear hx
  by_cases hl : levB a b c d u = true
  · by_cases hn : n ≤ 100
    · go_enter Try.func48, Try.ntmps48
      go_wp2_with fail
      refine (siLevel_any _ _ _ _ _ _ _).mono ?_
      rintro e w1 ⟨rfl, n1⟩
      have N1 := Lib.hid (show New w w1 from New.trans (by repeat (first | with_reducible exact New.refl _ | with_reducible assumption | refine New.drewN ?_ _ | refine New.drew ?_ | refine New.alloc ?_ _ | refine New.setCell ?_ (by first | omega | (simp; omega) | (simp; done)) _ | (refine New.trans ?_ (by assumption)))) n1); clear n1
      go_wp2_with fail
      refine (l1All_any _ _ _ _ xs _ _ (HX.out.new N1.out)).mono ?_
      rintro e w9 ⟨rfl, rfl⟩
      go_wp2
      go_ret
      have e1 := HX.out.len
      exact ⟨ret_bool (by unfold runB infB; rw [hl, decide_eq_true (show xs.length ≤ 100 by omega)]; rfl), N1.out⟩
    · have hf : decide ((n : Int) ≤ 100) = false := decide_eq_false (by omega)
      go_enter Try.func48, Try.ntmps48
      go_wp2_with fail
      refine (siLevel_any _ _ _ _ _ _ _).mono ?_
      rintro e w1 ⟨rfl, n1⟩
      have N1 := Lib.hid (show New w w1 from New.trans (by repeat (first | with_reducible exact New.refl _ | with_reducible assumption | refine New.drewN ?_ _ | refine New.drew ?_ | refine New.alloc ?_ _ | refine New.setCell ?_ (by first | omega | (simp; omega) | (simp; done)) _ | (refine New.trans ?_ (by assumption)))) n1); clear n1
      go_wp2
      go_ret
      have e1 := HX.out.len
      exact ⟨ret_bool (by unfold runB infB; rw [hl, decide_eq_false (show ¬ xs.length ≤ 100 by omega)]; rfl), N1.out⟩
  · have hf : levB a b c d u = false := by simpa using hl
    go_enter Try.func48, Try.ntmps48
    go_wp2_with fail
    refine (siLevel_any _ _ _ _ _ _ _).mono ?_
    rintro e w1 ⟨rfl, n1⟩
    have N1 := Lib.hid (show New w w1 from New.trans (by repeat (first | with_reducible exact New.refl _ | with_reducible assumption | refine New.drewN ?_ _ | refine New.drew ?_ | refine New.alloc ?_ _ | refine New.setCell ?_ (by first | omega | (simp; omega) | (simp; done)) _ | (refine New.trans ?_ (by assumption)))) n1); clear n1
    go_wp2
    go_ret
    exact ⟨ret_bool (by unfold runB; rw [hf]; rfl), N1.out⟩

theorem Try.infoLevel : (Try.prog.info? 27).map (fun i => (i.zero, i.size, i.bytes)) = some (some (.agg #[.int .i64 0, .bool false]), 2, 16) := by kernel_rfl

set_option maxRecDepth 100000 in
set_option maxHeartbeats 4000000 in
theorem siRun_any (w : World) (a b c d u : Int) (r : Bool) (aa : Option Addr) (n ca : Nat) (xs : List Int) (hx : Ints w aa n ca xs) (hr : runB a b c d u xs = true) :
    Calls Try.prog 49 #[sipV a b c d, levV u r, .slice aa n ca] w fun e w' => ∃ oa on oc la ln lc, e = .returned (.tuple #[.slice oa on oc, .slice la ln lc, .int .i64 (spK a b c d u r xs xs.length)]) ∧
      Own w' w.heap.size w'.heap.size oa on oc (outsTo a b c d u r xs xs.length) ∧ OwnLevel w' w.heap.size w'.heap.size la ln lc (levsTo a b c d u r xs xs.length) ∧ New w w' := by
  obtain ⟨⟨hs, h0, h1⟩, hl, hb⟩ := runB_iff.1 hr
  have HS := Lib.hid hs; clear hs
  have HB := Lib.hid hb; clear hb
  have hn : n ≤ 100 := by have := hx.1; omega
  have HL := Lib.hid hx.1
  have HX := Lib.hid hx; clear hx hl hr
  obtain ⟨i0, hi, hz0, hz1, hz2⟩ := info_parts Try.infoInt
  obtain ⟨i1, hj, hy0, hy1, hy2⟩ := info_parts Try.infoLevel
  go_enter Try.func49, Try.ntmps49
  go_wp2
  obtain ⟨v0, hv0⟩ : ∃ v, v = ((w.alloc (.cells #[.int .i64 a, .int .i64 b, .int .i64 c, .int .i64 d] 25)).alloc (.cells #[.int .i64 u, .bool r] 27)).alloc (.cells #[.int .i64 u, .bool r] 27) := ⟨_, rfl⟩
  rw [← hv0]
  have p0 : v0.cell? ⟨w.heap.size, 0, none⟩ = some (.int .i64 a) := by rw [hv0]; simp [go_sem]
  have p1 : v0.cell? ⟨w.heap.size, 1, none⟩ = some (.int .i64 b) := by rw [hv0]; simp [go_sem]
  have p2 : v0.cell? ⟨w.heap.size, 2, none⟩ = some (.int .i64 c) := by rw [hv0]; simp [go_sem]
  have p3 : v0.cell? ⟨w.heap.size, 3, none⟩ = some (.int .i64 d) := by rw [hv0]; simp [go_sem]
  have nv : New w v0 := by rw [hv0]; exact (by repeat (first | with_reducible exact New.refl _ | with_reducible assumption | refine New.drewN ?_ _ | refine New.drew ?_ | refine New.alloc ?_ _ | refine New.setCell ?_ (by first | omega | (simp; omega) | (simp; done)) _ | (refine New.trans ?_ (by assumption))))
  have RR : RunR v0 v0 (w.heap.size + 1) (w.heap.size + 1 + 1) 3 27 (.int .i64 u) (.bool r) (.slice none 0 0) 0 [] (.slice (some ⟨w.heap.size + 1 + 1, 0, none⟩) 1 1) 1 [.int .i64 u, .bool r] := by
    refine ⟨Below.refl _ _, by omega, by rw [hv0]; simp [go_sem], by rw [hv0]; simp [go_sem], by rw [hv0]; simp [go_sem], by rw [hv0]; simp [go_sem], World.ownsRow_nil _ _ _ _, ?_, fun g _ e => by simp [Value.ownBlock] at e⟩
    rw [hv0]
    exact ownsRow_lit2 _ _ _ (by simp) (Nat.le_refl _)
  have PP := Lib.hid (And.intro p0 (And.intro p1 (And.intro p2 p3))); clear p0 p1 p2 p3
  have NV := Lib.hid nv; clear nv
  have RR0 := Lib.hid RR; clear RR
  clear hv0
  go_loopw [9, 10, 11, 21] (fun vo vl vs i wr => ∃ k : Nat, k ≤ n ∧ i = .int .i64 k ∧ vs = .int .i64 (spK a b c d u r xs k) ∧
    RunR v0 wr (w.heap.size + 1) (w.heap.size + 1 + 1) 3 27 (.int .i64 (stK a b c d u r xs k).1) (.bool (stK a b c d u r xs k).2) vo k ((outsTo a b c d u r xs k).map (Value.int .i64)) vl (k + 1) (flatLevel (levsTo a b c d u r xs k))) (fun _ _ _ i _ => n - (intOf i).toNat)
  case atStart => exact ⟨0, Nat.zero_le _, rfl, rfl, RR0.out⟩
  case round =>
    obtain ⟨k, hk, rfl, rfl, hrr⟩ := hrel
    have RR := Lib.hid hrr; clear hrr
    have NW := Lib.hid (RR.out.since NV.out (by omega))
    have sb := stK_bd (r := r) HS.out h0 h1 HB.out k (by have := HL.out; omega)
    have sp := spK_bd (r := r) HS.out h0 h1 HB.out k (by have := HL.out; omega)
    obtain ⟨sb0, sb1⟩ := sb
    obtain ⟨sp0, sp1⟩ := sp
    by_cases hlt : k < n
    · obtain ⟨bx, ox, rfl, hc, hbx⟩ := (HX.out.new NW.out).at hlt
      obtain ⟨x0, x1⟩ := HB.out k (by have := HL.out; omega)
      have ts := tkS_bd a (stK a b c d u r xs k).1 (xs[k]?.getD 0) sb1 x1
      obtain ⟨ts0, ts1⟩ := ts
      have l0 := RR.out.c0
      have l1 := RR.out.c1
      have p0 := RR.out.old PP.out.1 (by simp)
      have p1 := RR.out.old PP.out.2.1 (by simp)
      have p2 := RR.out.old PP.out.2.2.1 (by simp)
      have p3 := RR.out.old PP.out.2.2.2 (by simp)
      go_wp2_with fail
      refine (siTick_any _ _ _ _ _ _ _ _ HS.out sb0 sb1 x0 x1).mono ?_
      rintro e w1 ⟨rfl, n1⟩
      replace l0 := n1.cell l0
      replace l1 := n1.cell l1
      have f0 := n1.frz RR.out.c0 RR.out.f0
      have f1 := n1.frz RR.out.c1 RR.out.f1
      have RR1 := Lib.hid (RR.out.kept n1); clear n1 hc p0 p1 p2 p3
      have zb := RR1.out.bsize
      go_wp2_with (first
        | (at_builtin; refine wpList_append_lies _ (by rfl) (.tmp 34) (.tmp 36) 28 (by rfl) (w.heap.size + 1 + 1) 3 i0 (.int .i64 0) 1 8 Try.underlying28 hi hz0 hz1 hz2 rfl (by decide) _ k _ (by rfl) (((RR1.out.put _ _).kept (by repeat (first | with_reducible exact New.refl _ | with_reducible assumption | refine New.drewN ?_ _ | refine New.drew ?_ | refine New.alloc ?_ _ | refine New.setCell ?_ (by first | omega | (simp; omega) | (simp; done)) _ | (refine New.trans ?_ (by assumption))))).outs) _ _ _ [.int .i64 (tkO a b c d (stK a b c d u r xs k).1 (xs[k]?.getD 0) (stK a b c d u r xs k).2)] (by rfl) (by rfl) (World.news_of_block (cs := #[.int .i64 (tkO a b c d (stK a b c d u r xs k).1 (xs[k]?.getD 0) (stK a b c d u r xs k).2)]) (t := 3) (fr := (0, 0)) (heap_alloc_at (by simp))) (by simp [Value.oneCell']) (by omega) (by unfold maxLen; omega) (by omega) (by simp; omega) _ rfl ?_; intro g cap w2 ho hg hb' hlt'; have zz := hg.size; (simp at zz); have R2 := RunR.growO ((RR1.out.put _ _).kept (by repeat (first | with_reducible exact New.refl _ | with_reducible assumption | refine New.drewN ?_ _ | refine New.drew ?_ | refine New.alloc ?_ _ | refine New.setCell ?_ (by first | omega | (simp; omega) | (simp; done)) _ | (refine New.trans ?_ (by assumption))))) ho hg hb'; replace l0 := R2.c0; replace l1 := R2.c1; have RR2 := Lib.hid R2; clear R2 ho hg hb' hlt' f0 f1)
        | (at_builtin; go_loud (refine wpList_append_lies _ (by rfl) (.tmp 38) (.tmp 40) 33 (by rfl) (w.heap.size + 1 + 1) 27 i1 _ 2 16 Try.underlying33 hj hy0 hy1 hy2 rfl (by decide) _ (k + 1) _ (by rfl) ((RR2.out.kept (by repeat (first | with_reducible exact New.refl _ | with_reducible assumption | refine New.drewN ?_ _ | refine New.drew ?_ | refine New.alloc ?_ _ | refine New.setCell ?_ (by first | omega | (simp; omega) | (simp; done)) _ | (refine New.trans ?_ (by assumption))))).levs) _ _ _ [.int .i64 (tkH a b c d (stK a b c d u r xs k).1 (xs[k]?.getD 0) (stK a b c d u r xs k).2), .bool (tkR a b c d (stK a b c d u r xs k).1 (xs[k]?.getD 0) (stK a b c d u r xs k).2)] (by rfl) (by rfl) (World.news_of_block (cs := #[.int .i64 (tkH a b c d (stK a b c d u r xs k).1 (xs[k]?.getD 0) (stK a b c d u r xs k).2), .bool (tkR a b c d (stK a b c d u r xs k).1 (xs[k]?.getD 0) (stK a b c d u r xs k).2)]) (t := 27) (fr := (0, 0)) (heap_alloc_at (by simp))) (by simp [Value.oneCell']) (by omega) (by unfold maxLen; omega) (by omega) (by simp; omega) _ rfl ?_; intro g3 cap3 w3 ho3 hg3 hb3 hlt3; have R3 := RunR.growL (RR2.out.kept (by repeat (first | with_reducible exact New.refl _ | with_reducible assumption | refine New.drewN ?_ _ | refine New.drew ?_ | refine New.alloc ?_ _ | refine New.setCell ?_ (by first | omega | (simp; omega) | (simp; done)) _ | (refine New.trans ?_ (by assumption))))) ho3 hg3 hb3; have RR3 := Lib.hid R3; clear R3 ho3 hg3 hb3 hlt3 l0 l1)))
      go_roundw
      case rel =>
        refine ⟨k + 1, by omega, by go_num, rfl, ?_⟩
        rw [outsTo_succ, List.map_append, levsTo_succ, flatLevel_append]
        exact RR3.out
      case measure => simp [intOf]; omega
    · obtain rfl : k = n := by omega
      go_wp2
      obtain ⟨oa, oc, e1, o1⟩ := Own.of_row RR.out.outs
      obtain ⟨la, lc, e2, o2⟩ := OwnLevel.of_row RR.out.levs
      have ek : k = xs.length := HL.out
      subst e1 e2 ek
      go_ret3
      exact ⟨_, _, _, _, _, _, rfl, o1.mono (by omega) (Nat.le_refl _), o2.mono (by omega) (Nat.le_refl _), NW.out⟩

theorem sOutsOf_any (w : World) (a b c d u : Int) (r : Bool) (aa : Option Addr) (n ca : Nat) (xs : List Int) (hx : Ints w aa n ca xs) :
    Calls Try.prog 8 #[sipV a b c d, levV u r, .slice aa n ca] w fun e w' => ∃ oa on oc, e = .returned (.tuple #[.slice oa on oc, .bool (runB a b c d u xs)]) ∧ Own w' w.heap.size w'.heap.size oa on oc (outsM a b c d u r xs) ∧ New w w' := by
  have HX := Lib.hid hx; clear hx
  by_cases hr : runB a b c d u xs = true
  · have HM := Lib.hid (show outsM a b c d u r xs = outsTo a b c d u r xs xs.length by unfold outsM; rw [if_pos hr])
    have HR := Lib.hid hr
    go_enter Try.func8, Try.ntmps8
    go_wp2_with fail
    refine (siAsked_any _ _ _ _ _ _ _ _ _ _ xs (HX.out.new (by repeat (first | with_reducible exact New.refl _ | with_reducible assumption | refine New.drewN ?_ _ | refine New.drew ?_ | refine New.alloc ?_ _ | refine New.setCell ?_ (by first | omega | (simp; omega) | (simp; done)) _ | (refine New.trans ?_ (by assumption)))))).mono ?_
    rintro e w1 ⟨rfl, n1⟩
    obtain ⟨hc, hf, hz⟩ := bcell n1
    (try simp at hz)
    have z0 : w.heap.size < w1.heap.size := by omega
    have z1 : w.heap.size + 1 < w1.heap.size := by omega
    have N1 := Lib.hid (show New w w1 from New.trans (by repeat (first | with_reducible exact New.refl _ | with_reducible assumption | refine New.drewN ?_ _ | refine New.drew ?_ | refine New.alloc ?_ _ | refine New.setCell ?_ (by first | omega | (simp; omega) | (simp; done)) _ | (refine New.trans ?_ (by assumption)))) n1); clear n1
    go_wp2_with fail
    refine (siRun_any _ _ _ _ _ _ _ _ _ _ xs (HX.out.new N1.out) HR.out).mono ?_
    rintro e w2 ⟨oa, on, oc, la, ln, lc, rfl, o1, o2, n2⟩
    clear hc hf
    have zn := N1.out.size
    have O1 := Lib.hid o1; clear o1 o2
    have N2 := Lib.hid (N1.out.trans n2); clear n2
    go_wp2
    go_ret2
    rw [HM.out]
    exact ⟨_, _, _, by rw [HR.out]; rfl, O1.out.mono zn (Nat.le_refl _), N2.out⟩
  · have hf : runB a b c d u xs = false := by simpa using hr
    have HM := Lib.hid (show outsM a b c d u r xs = [] by unfold outsM; rw [if_neg hr])
    go_enter Try.func8, Try.ntmps8
    go_wp2_with fail
    refine (siAsked_any _ _ _ _ _ _ _ _ _ _ xs (HX.out.new (by repeat (first | with_reducible exact New.refl _ | with_reducible assumption | refine New.drewN ?_ _ | refine New.drew ?_ | refine New.alloc ?_ _ | refine New.setCell ?_ (by first | omega | (simp; omega) | (simp; done)) _ | (refine New.trans ?_ (by assumption)))))).mono ?_
    rintro e w1 ⟨rfl, n1⟩
    have N1 := Lib.hid (show New w w1 from New.trans (by repeat (first | with_reducible exact New.refl _ | with_reducible assumption | refine New.drewN ?_ _ | refine New.drew ?_ | refine New.alloc ?_ _ | refine New.setCell ?_ (by first | omega | (simp; omega) | (simp; done)) _ | (refine New.trans ?_ (by assumption)))) n1); clear n1
    go_wp2
    go_ret2
    rw [HM.out]
    exact ⟨none, 0, 0, by rw [hf]; rfl, Own.nil _ _ _, N1.out⟩

theorem sLevelsOf_any (w : World) (a b c d u : Int) (r : Bool) (aa : Option Addr) (n ca : Nat) (xs : List Int) (hx : Ints w aa n ca xs) :
    Calls Try.prog 10 #[sipV a b c d, levV u r, .slice aa n ca] w fun e w' => ∃ oa on oc, e = .returned (.tuple #[.slice oa on oc, .bool (runB a b c d u xs)]) ∧ OwnLevel w' w.heap.size w'.heap.size oa on oc (levsM a b c d u r xs) ∧ New w w' := by
  have HX := Lib.hid hx; clear hx
  by_cases hr : runB a b c d u xs = true
  · have HM := Lib.hid (show levsM a b c d u r xs = levsTo a b c d u r xs xs.length by unfold levsM; rw [if_pos hr])
    have HR := Lib.hid hr
    go_enter Try.func10, Try.ntmps10
    go_wp2_with fail
    refine (siAsked_any _ _ _ _ _ _ _ _ _ _ xs (HX.out.new (by repeat (first | with_reducible exact New.refl _ | with_reducible assumption | refine New.drewN ?_ _ | refine New.drew ?_ | refine New.alloc ?_ _ | refine New.setCell ?_ (by first | omega | (simp; omega) | (simp; done)) _ | (refine New.trans ?_ (by assumption)))))).mono ?_
    rintro e w1 ⟨rfl, n1⟩
    obtain ⟨hc, hf, hz⟩ := bcell n1
    (try simp at hz)
    have z0 : w.heap.size < w1.heap.size := by omega
    have z1 : w.heap.size + 1 < w1.heap.size := by omega
    have N1 := Lib.hid (show New w w1 from New.trans (by repeat (first | with_reducible exact New.refl _ | with_reducible assumption | refine New.drewN ?_ _ | refine New.drew ?_ | refine New.alloc ?_ _ | refine New.setCell ?_ (by first | omega | (simp; omega) | (simp; done)) _ | (refine New.trans ?_ (by assumption)))) n1); clear n1
    go_wp2_with fail
    refine (siRun_any _ _ _ _ _ _ _ _ _ _ xs (HX.out.new N1.out) HR.out).mono ?_
    rintro e w2 ⟨oa, on, oc, la, ln, lc, rfl, o1, o2, n2⟩
    clear hc hf
    have zn := N1.out.size
    have O1 := Lib.hid o2; clear o1 o2
    have N2 := Lib.hid (N1.out.trans n2); clear n2
    go_wp2
    go_ret2
    rw [HM.out]
    exact ⟨_, _, _, by rw [HR.out]; rfl, O1.out.mono zn (Nat.le_refl _), N2.out⟩
  · have hf : runB a b c d u xs = false := by simpa using hr
    have HM := Lib.hid (show levsM a b c d u r xs = [] by unfold levsM; rw [if_neg hr])
    go_enter Try.func10, Try.ntmps10
    go_wp2_with fail
    refine (siAsked_any _ _ _ _ _ _ _ _ _ _ xs (HX.out.new (by repeat (first | with_reducible exact New.refl _ | with_reducible assumption | refine New.drewN ?_ _ | refine New.drew ?_ | refine New.alloc ?_ _ | refine New.setCell ?_ (by first | omega | (simp; omega) | (simp; done)) _ | (refine New.trans ?_ (by assumption)))))).mono ?_
    rintro e w1 ⟨rfl, n1⟩
    have N1 := Lib.hid (show New w w1 from New.trans (by repeat (first | with_reducible exact New.refl _ | with_reducible assumption | refine New.drewN ?_ _ | refine New.drew ?_ | refine New.alloc ?_ _ | refine New.setCell ?_ (by first | omega | (simp; omega) | (simp; done)) _ | (refine New.trans ?_ (by assumption)))) n1); clear n1
    go_wp2
    go_ret2
    rw [HM.out]
    exact ⟨none, 0, 0, by rw [hf]; rfl, OwnLevel.nil _ _ _, N1.out⟩

theorem sSpiltOf_any (w : World) (a b c d u : Int) (r : Bool) (aa : Option Addr) (n ca : Nat) (xs : List Int) (hx : Ints w aa n ca xs) :
    Calls Try.prog 12 #[sipV a b c d, levV u r, .slice aa n ca] w fun e w' => e = .returned (.tuple #[.int .i64 (spM a b c d u r xs), .bool (runB a b c d u xs)]) ∧ New w w' := by
  have HX := Lib.hid hx; clear hx
  by_cases hr : runB a b c d u xs = true
  · have HM := Lib.hid (show spM a b c d u r xs = spK a b c d u r xs xs.length by unfold spM; rw [if_pos hr])
    have HR := Lib.hid hr
    go_enter Try.func12, Try.ntmps12
    go_wp2_with fail
    refine (siAsked_any _ _ _ _ _ _ _ _ _ _ xs (HX.out.new (by repeat (first | with_reducible exact New.refl _ | with_reducible assumption | refine New.drewN ?_ _ | refine New.drew ?_ | refine New.alloc ?_ _ | refine New.setCell ?_ (by first | omega | (simp; omega) | (simp; done)) _ | (refine New.trans ?_ (by assumption)))))).mono ?_
    rintro e w1 ⟨rfl, n1⟩
    obtain ⟨hc, hf, hz⟩ := bcell n1
    (try simp at hz)
    have z0 : w.heap.size < w1.heap.size := by omega
    have z1 : w.heap.size + 1 < w1.heap.size := by omega
    have N1 := Lib.hid (show New w w1 from New.trans (by repeat (first | with_reducible exact New.refl _ | with_reducible assumption | refine New.drewN ?_ _ | refine New.drew ?_ | refine New.alloc ?_ _ | refine New.setCell ?_ (by first | omega | (simp; omega) | (simp; done)) _ | (refine New.trans ?_ (by assumption)))) n1); clear n1
    go_wp2_with fail
    refine (siRun_any _ _ _ _ _ _ _ _ _ _ xs (HX.out.new N1.out) HR.out).mono ?_
    rintro e w2 ⟨oa, on, oc, la, ln, lc, rfl, o1, o2, n2⟩
    clear hc hf o1 o2
    have N2 := Lib.hid (N1.out.trans n2); clear n2
    go_wp2
    go_ret2
    exact ⟨by rw [HM.out, HR.out]; rfl, N2.out⟩
  · have hf : runB a b c d u xs = false := by simpa using hr
    have HM := Lib.hid (show spM a b c d u r xs = 0 by unfold spM; rw [if_neg hr])
    go_enter Try.func12, Try.ntmps12
    go_wp2_with fail
    refine (siAsked_any _ _ _ _ _ _ _ _ _ _ xs (HX.out.new (by repeat (first | with_reducible exact New.refl _ | with_reducible assumption | refine New.drewN ?_ _ | refine New.drew ?_ | refine New.alloc ?_ _ | refine New.setCell ?_ (by first | omega | (simp; omega) | (simp; done)) _ | (refine New.trans ?_ (by assumption)))))).mono ?_
    rintro e w1 ⟨rfl, n1⟩
    have N1 := Lib.hid (show New w w1 from New.trans (by repeat (first | with_reducible exact New.refl _ | with_reducible assumption | refine New.drewN ?_ _ | refine New.drew ?_ | refine New.alloc ?_ _ | refine New.setCell ?_ (by first | omega | (simp; omega) | (simp; done)) _ | (refine New.trans ?_ (by assumption)))) n1); clear n1
    go_wp2
    go_ret2
    exact ⟨by rw [HM.out, hf]; rfl, N1.out⟩
end Go.Proofs.Ytfhpmihjfojbnaa
