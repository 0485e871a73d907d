/- The program's pulse. -/
import Derived.Test.YtafiihhiipfejaaRead9
namespace Go.Proofs.Ytafiihhiipfejaa
open Go.RowKit Go.Maps

def slen : Value → Nat
  | .slice _ n _ => n
  | _ => 0
theorem ownsRow_lit1 (w : World) (y : Value) {base B : Nat} {e : TypeId} (hB : w.heap.size = B) (hb : base ≤ B) : (w.alloc (.cells #[y] e)).ownsRow base e 1 (.slice (some ⟨B, 0, none⟩) 1 1) 1 [y] := by
  subst hB
  exact ⟨rfl, .inr ⟨w.heap.size, 1, #[y], rfl, hb, heap_alloc_new w _, Nat.le_refl _, by unfold maxLen; omega, rfl, rfl⟩⟩
theorem pulseM_short (a b c d x : Int) : (pulseM a b c d x).length ≤ 1048576 := by
  unfold pulseM
  by_cases hs : steadyB a b c d x = true
  · obtain ⟨ho, x0, x1⟩ := steadyB_iff.1 hs
    obtain ⟨hm, hn⟩ := per_ex (x := x) ho x0
    rw [if_pos hs, pulseTo_length]
    unfold perP
    omega
  · rw [if_neg hs]; exact Nat.zero_le _
theorem slen_of_row {w : World} {base : Nat} {v : Value} {n : Nat} {l : List Int} (h : w.ownsRow base 3 1 v n (l.map (Value.int .i64))) : slen v = n := by
  obtain ⟨oa, oc, e, o⟩ := Own.of_row h
  subst e
  rfl
set_option maxRecDepth 100000 in
set_option maxHeartbeats 4000000 in
theorem iPulseOf_any (w : World) (a b c d x : Int) :
    Calls Try.prog 13 #[sipV a b c d, .int .i64 x] w fun e w' => ∃ oa on oc, e = .returned (.tuple #[.slice oa on oc, .bool (steadyB a b c d x)]) ∧ Own w' w.heap.size w'.heap.size oa on oc (pulseM a b c d x) ∧ New w w' := by
  by_cases hs : steadyB a b c d x = true
  · have EQ := Lib.hid (show pulseM a b c d x = pulseTo a b c d x (perK a b c d x) (perP a b c d x) by unfold pulseM; rw [if_pos hs])
    obtain ⟨i0, hi, hz0, hz1, hz2⟩ := info_parts Try.infoInt
    obtain ⟨ho, x0, x1⟩ := steadyB_iff.1 hs
    obtain ⟨kf, hkf⟩ := keyFn_ex
    obtain ⟨hm, hn⟩ := per_ex (x := x) ho x0
    have KN : perK a b c d x < perN a b c d x := hm.2.1
    have AP := Lib.hid (apart_of hkf (chain_one ho) x0 x1 (meets_one.2 hm).1)
    have OK := Lib.hid (chSt_ok (x := x) (chain_one ho) x0 x1)
    have HM := Lib.hid (meets_one.2 hm); clear hm
    have HSD := Lib.hid hs; clear hs
    have HS := Lib.hid ho; clear ho
    have ub := cst_bd (a := a) (b := b) (c := c) (d := d) HS.out x0 (perK a b c d x)
    obtain ⟨ub0, ub1⟩ := ub
    go_enter Try.func13, Try.ntmps13
    go_wp2_with fail
    refine (roundOf_yes hkf _ _ _ _ [(a, b, c, d)] x _ _ (lit4_reads _ _ _ _ _ _ (by simp)) (by rw [chainB_one]; exact sipB_iff.2 HS.out) (inB_iff.2 ⟨x0, x1⟩) HM.out (by omega)).mono ?_
    rintro e w1 ⟨B, D, rfl, hB, hom, ht, n1⟩
    have KF := Lib.hid hkf; clear hkf
    have b0 : w1.cell? ⟨w.heap.size, 0, none⟩ = some (.int .i64 a) := n1.cell (by simp [go_sem])
    have b1 : w1.cell? ⟨w.heap.size, 1, none⟩ = some (.int .i64 b) := n1.cell (by simp [go_sem])
    have b2 : w1.cell? ⟨w.heap.size, 2, none⟩ = some (.int .i64 c) := n1.cell (by simp [go_sem])
    have b3 : w1.cell? ⟨w.heap.size, 3, none⟩ = some (.int .i64 d) := n1.cell (by simp [go_sem])
    have zs : w.heap.size < w1.heap.size := World.block_lt_of_cell? _ _ b0
    have N1 := Lib.hid (show New w w1 from New.trans (by repeat (first | with_reducible exact New.refl _ | with_reducible assumption | refine New.drewN ?_ _ | refine New.drew ?_ | refine New.alloc ?_ _ | refine New.setCell ?_ (by first | omega | (simp; omega) | (simp; done)) _ | (refine New.trans ?_ (by assumption)))) n1); clear n1
    have HB0 := Lib.hid (show w.heap.size ≤ B by simp at hB; omega); clear hB
    have HT := Lib.hid ht; clear ht
    have HO1 := Lib.hid hom; clear hom
    go_wp2_with (refine wpList_store_mid rfl 64 (.tmp 6) (.tmp 18) rfl w1.heap.size 0 (roundC B (chSt [(a, b, c, d)] x (perK a b c d x))).toArray rfl rfl (th9 w1) (by kernel_rfl) (roundC_one _ _) ?_; obtain ⟨w2, hw2⟩ : ∃ w2, w2 = (w1.alloc (.cells #[.map none, .int .i64 0, .bool false, .int .i64 0, .bool false, .int .i64 0, .bool false, .int .i64 0, .bool false] 64)).setCells w1.heap.size 0 (roundC B (chSt [(a, b, c, d)] x (perK a b c d x))).toArray.toList := ⟨_, rfl⟩; rw [← hw2]; obtain ⟨d0, d1, d2, n12, ho2, z2⟩ := stored_yes hw2 HO1.out; clear hw2; rw [lvAt_one] at d1 d2; have zu := Nat.lt_trans zs z2; replace b0 := n12.cell b0; replace b1 := n12.cell b1; replace b2 := n12.cell b2; replace b3 := n12.cell b3; have OM := Lib.hid ho2; have N2 := Lib.hid (N1.out.trans n12); clear n12 ho2)
    refine (siphonTick_any _ _ _ _ _ _ _ _ HS.out ub0 ub1 x0 x1).mono ?_
    rintro e w3 ⟨rfl, n3⟩
    have q0 : w3.cell? ⟨w2.heap.size, 0, none⟩ = some (.int .i64 (cst a b c d x (perK a b c d x)).1) := n3.cell (by simp [go_sem])
    have q1 : w3.cell? ⟨w2.heap.size, 1, none⟩ = some (.bool (cst a b c d x (perK a b c d x)).2) := n3.cell (by simp [go_sem])
    have n23 : New w2 w3 := New.trans (by repeat (first | with_reducible exact New.refl _ | with_reducible assumption | refine New.drewN ?_ _ | refine New.drew ?_ | refine New.alloc ?_ _ | refine New.setCell ?_ (by first | omega | (simp; omega) | (simp; done)) _ | (refine New.trans ?_ (by assumption)))) n3
    have z3 : w2.heap.size < w3.heap.size := World.block_lt_of_cell? _ _ q0
    clear n3
    go_wp2
    obtain ⟨v0, hv0⟩ : ∃ v, v = (w3.alloc (.cells #[.int .i64 (tkH a b c d (cst a b c d x (perK a b c d x)).1 x (cst a b c d x (perK a b c d x)).2), .bool (tkR a b c d (cst a b c d x (perK a b c d x)).1 x (cst a b c d x (perK a b c d x)).2)] 55)).alloc (.cells #[.int .i64 (tkO a b c d (cst a b c d x (perK a b c d x)).1 x (cst a b c d x (perK a b c d x)).2)] 3) := ⟨_, rfl⟩
    rw [← hv0]
    have nv : New w3 v0 := by rw [hv0]; exact (by repeat (first | with_reducible exact New.refl _ | with_reducible assumption | refine New.drewN ?_ _ | refine New.drew ?_ | refine New.alloc ?_ _ | refine New.setCell ?_ (by first | omega | (simp; omega) | (simp; done)) _ | (refine New.trans ?_ (by assumption))))
    have RR : RunR v0 v0 w3.heap.size (w3.heap.size + 1) 3 55 (.int .i64 (cst a b c d x (perK a b c d x + 1)).1) (.bool (cst a b c d x (perK a b c d x + 1)).2) (.slice (some ⟨w3.heap.size + 1, 0, none⟩) 1 1) 1 ((pulseTo a b c d x (perK a b c d x) 1).map (Value.int .i64)) (.slice none 0 0) 0 [] := by
      refine ⟨Below.refl _ _, by omega, by rw [hv0]; simp [go_sem, cst], by rw [hv0]; simp [go_sem, cst], by rw [hv0]; simp [go_sem], by rw [hv0]; simp [go_sem], ?_, World.ownsRow_nil _ _ _ _, fun g e => by simp [Value.ownBlock] at e⟩
      rw [hv0]
      exact ownsRow_lit1 _ _ (by simp) (Nat.le_refl _)
    have PP := Lib.hid (And.intro (nv.cell (n23.cell b0)) (And.intro (nv.cell (n23.cell b1)) (And.intro (nv.cell (n23.cell b2)) (nv.cell (n23.cell b3))))); clear b0 b1 b2 b3
    have QQ := Lib.hid (And.intro (nv.cell q0) (nv.cell q1)); clear q0 q1
    have NV := Lib.hid (N2.out.trans (n23.trans nv)); clear nv n23
    have RR0 := Lib.hid RR; clear RR
    clear hv0 d0 d1 d2
    go_loopw [12] (fun vo wr => ∃ j : Nat, 1 ≤ j ∧ j ≤ perP a b c d x ∧
      RunR v0 wr w3.heap.size (w3.heap.size + 1) 3 55 (.int .i64 (cst a b c d x (perK a b c d x + j)).1) (.bool (cst a b c d x (perK a b c d x + j)).2) vo j ((pulseTo a b c d x (perK a b c d x) j).map (Value.int .i64)) (.slice none 0 0) 0 []) (fun vo _ => perP a b c d x - slen vo)
    case atStart => exact ⟨1, Nat.le_refl _, by unfold perP; omega, RR0.out⟩
    case round =>
      obtain ⟨j, j1, hj, hrr⟩ := hrel
      have RR := Lib.hid hrr; clear hrr
      have NW := Lib.hid (RR.out.since NV.out (by omega))
      have sb := cst_bd (a := a) (b := b) (c := c) (d := d) HS.out x0 (perK a b c d x + j)
      obtain ⟨sb0, sb1⟩ := sb
      have l0 := RR.out.c0
      have l1 := RR.out.c1
      have p0 := RR.out.old PP.out.1 (by simp; omega)
      have p1 := RR.out.old PP.out.2.1 (by simp; omega)
      have p2 := RR.out.old PP.out.2.2.1 (by simp; omega)
      have p3 := RR.out.old PP.out.2.2.2 (by simp; omega)
      have q0 := RR.out.old QQ.out.1 (by simp; omega)
      have q1 := RR.out.old QQ.out.2 (by simp; omega)
      have P122 : perP a b c d x ≤ 122 := by unfold perP; omega
      by_cases hlt : j < perP a b c d x
      · have hne : ¬ ((cst a b c d x (perK a b c d x + j)).1 = (cst a b c d x (perK a b c d x)).1 ∧ (cst a b c d x (perK a b c d x + j)).2 = (cst a b c d x (perK a b c d x)).2) := fun g => by
          unfold perP at hlt
          exact (meets_one.1 HM.out).1 (perK a b c d x) (perK a b c d x + j) (by omega) (by omega) (Prod.ext g.1.symm g.2.symm)
        obtain ⟨u, hu⟩ : ∃ u, u = (cst a b c d x (perK a b c d x + j)).1 := ⟨_, rfl⟩
        obtain ⟨r, hr⟩ : ∃ r, r = (cst a b c d x (perK a b c d x + j)).2 := ⟨_, rfl⟩
        obtain ⟨f, hf⟩ : ∃ f, f = (cst a b c d x (perK a b c d x)).1 := ⟨_, rfl⟩
        obtain ⟨g, hg⟩ : ∃ g, g = (cst a b c d x (perK a b c d x)).2 := ⟨_, rfl⟩
        rw [← hu] at l0 sb0 sb1 hne
        rw [← hr] at l1 hne
        rw [← hf] at q0 hne
        rw [← hg] at q1 hne
        have HU := Lib.hid hu; clear hu
        have HR := Lib.hid hr; clear hr
        clear hf hg
        by_cases e1 : u = f
        · subst e1
          have e2 : ¬ r = g := fun q => hne ⟨rfl, q⟩
          clear hne
          go_wp2_with fail
          refine (siphonTick_any _ _ _ _ _ _ _ _ HS.out sb0 sb1 x0 x1).mono ?_
          rintro e w4 ⟨rfl, n4⟩
          replace l0 := n4.cell l0
          replace l1 := n4.cell l1
          have g0 := n4.frz RR.out.c0 RR.out.f0
          have g1 := n4.frz RR.out.c1 RR.out.f1
          have RR1 := Lib.hid (RR.out.kept n4); clear n4 p0 p1 p2 p3 q0 q1
          have zb := RR1.out.bsize
          go_wp2_with (at_builtin; (refine wpList_append_lies _ (by rfl) (.tmp 46) (.tmp 48) 29 (by rfl) (w3.heap.size + 1) 3 i0 (.int .i64 0) 1 8 Try.underlying29 hi hz0 hz1 hz2 rfl (by decide) _ j _ (by rfl) (((RR1.out.put _ _).kept (by repeat (first | with_reducible exact New.refl _ | with_reducible assumption | refine New.drewN ?_ _ | refine New.drew ?_ | refine New.alloc ?_ _ | refine New.setCell ?_ (by first | omega | (simp; omega) | (simp; done)) _ | (refine New.trans ?_ (by assumption))))).outs) _ _ _ [.int .i64 (tkO a b c d u x r)] (by rfl) (by rfl) (World.news_of_block (cs := #[.int .i64 (tkO a b c d u x r)]) (t := 3) (fr := (0, 0)) (heap_alloc_at (by simp))) (by simp [Value.oneCell']) (by omega) (by unfold maxLen; omega) (by omega) (by first | omega | (simp; omega) | (simp; done)) _ rfl ?_; intro g cap w5 ho hg hb' hlt'; have RR2 := Lib.hid (RunR.growO ((RR1.out.put _ _).kept (by repeat (first | with_reducible exact New.refl _ | with_reducible assumption | refine New.drewN ?_ _ | refine New.drew ?_ | refine New.alloc ?_ _ | refine New.setCell ?_ (by first | omega | (simp; omega) | (simp; done)) _ | (refine New.trans ?_ (by assumption))))) ho hg hb'); clear ho hg hb' hlt' l0 l1 g0 g1))
          go_roundw
          case rel =>
            refine ⟨j + 1, by omega, by omega, ?_⟩
            rw [pulseTo_succ, List.map_append]
            have q := RR2.out
            rw [HU.out, HR.out] at q
            exact q
          case measure => rw [slen_of_row RR.out.outs]; show _ - (j + 1) < _; omega
        · clear hne
          go_wp2_with fail
          refine (siphonTick_any _ _ _ _ _ _ _ _ HS.out sb0 sb1 x0 x1).mono ?_
          rintro e w4 ⟨rfl, n4⟩
          replace l0 := n4.cell l0
          replace l1 := n4.cell l1
          have g0 := n4.frz RR.out.c0 RR.out.f0
          have g1 := n4.frz RR.out.c1 RR.out.f1
          have RR1 := Lib.hid (RR.out.kept n4); clear n4 p0 p1 p2 p3 q0 q1
          have zb := RR1.out.bsize
          go_wp2_with (at_builtin; (refine wpList_append_lies _ (by rfl) (.tmp 46) (.tmp 48) 29 (by rfl) (w3.heap.size + 1) 3 i0 (.int .i64 0) 1 8 Try.underlying29 hi hz0 hz1 hz2 rfl (by decide) _ j _ (by rfl) (((RR1.out.put _ _).kept (by repeat (first | with_reducible exact New.refl _ | with_reducible assumption | refine New.drewN ?_ _ | refine New.drew ?_ | refine New.alloc ?_ _ | refine New.setCell ?_ (by first | omega | (simp; omega) | (simp; done)) _ | (refine New.trans ?_ (by assumption))))).outs) _ _ _ [.int .i64 (tkO a b c d u x r)] (by rfl) (by rfl) (World.news_of_block (cs := #[.int .i64 (tkO a b c d u x r)]) (t := 3) (fr := (0, 0)) (heap_alloc_at (by simp))) (by simp [Value.oneCell']) (by omega) (by unfold maxLen; omega) (by omega) (by first | omega | (simp; omega) | (simp; done)) _ rfl ?_; intro g cap w5 ho hg hb' hlt'; have RR2 := Lib.hid (RunR.growO ((RR1.out.put _ _).kept (by repeat (first | with_reducible exact New.refl _ | with_reducible assumption | refine New.drewN ?_ _ | refine New.drew ?_ | refine New.alloc ?_ _ | refine New.setCell ?_ (by first | omega | (simp; omega) | (simp; done)) _ | (refine New.trans ?_ (by assumption))))) ho hg hb'); clear ho hg hb' hlt' l0 l1 g0 g1))
          go_roundw
          case rel =>
            refine ⟨j + 1, by omega, by omega, ?_⟩
            rw [pulseTo_succ, List.map_append]
            have q := RR2.out
            rw [HU.out, HR.out] at q
            exact q
          case measure => rw [slen_of_row RR.out.outs]; show _ - (j + 1) < _; omega
      · obtain rfl : j = perP a b c d x := by omega
        have hP : cst a b c d x (perK a b c d x + perP a b c d x) = cst a b c d x (perK a b c d x) := by
          rw [show perK a b c d x + perP a b c d x = perN a b c d x by unfold perP; omega]
          exact (meets_one.1 HM.out).2.2.symm
        rw [hP] at l0 l1
        obtain ⟨oa, oc, e1, o1⟩ := Own.of_row RR.out.outs
        subst e1
        go_wp2
        go_ret2
        exact ⟨_, _, _, by rw [HSD.out]; rfl, by rw [EQ.out]; exact o1.mono (by omega) (Nat.le_refl _), NW.out⟩

  · have hf : steadyB a b c d x = false := by simpa using hs
    go_enter Try.func13, Try.ntmps13
    go_wp2_with fail
    refine (roundOf_bad _ _ _ _ [(a, b, c, d)] x (lit4_reads _ _ _ _ _ _ (by simp)) (by rw [chainB_one]; exact hf)).mono ?_
    rintro e w1 ⟨rfl, n1⟩
    have N1 := Lib.hid (show New w w1 from New.trans (by repeat (first | with_reducible exact New.refl _ | with_reducible assumption | refine New.drewN ?_ _ | refine New.drew ?_ | refine New.alloc ?_ _ | refine New.setCell ?_ (by first | omega | (simp; omega) | (simp; done)) _ | (refine New.trans ?_ (by assumption)))) n1); clear n1
    go_wp2_with (refine wpList_store_mid rfl 64 (.tmp 6) (.tmp 18) rfl w1.heap.size 0 zero9.toArray rfl rfl (th9 w1) (by kernel_rfl) zero9_one ?_; obtain ⟨w2, hw2⟩ : ∃ w2, w2 = (w1.alloc (.cells #[.map none, .int .i64 0, .bool false, .int .i64 0, .bool false, .int .i64 0, .bool false, .int .i64 0, .bool false] 64)).setCells w1.heap.size 0 zero9.toArray.toList := ⟨_, rfl⟩; rw [← hw2]; have N2 := Lib.hid (show New w w2 by rw [hw2]; exact New.setCells (N1.out.alloc _) N1.out.size _ _); clear hw2)
    go_ret2
    exact ⟨_, _, _, by rw [hf]; rfl, by unfold pulseM; rw [hf]; exact Own.nil _ _ _, N2.out⟩
end Go.Proofs.Ytafiihhiipfejaa
