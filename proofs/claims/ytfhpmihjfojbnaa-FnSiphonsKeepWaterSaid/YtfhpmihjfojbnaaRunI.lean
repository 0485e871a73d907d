/- The program's functions on a siphon and many ticks. -/
import Derived.Test.YtfhpmihjfojbnaaSipI
import Derived.Test.YtfhpmihjfojbnaaRun
import Derived.Test.YtfhpmihjfojbnaaRows2c
namespace Go.Proofs.Ytfhpmihjfojbnaa
open Go.RowKit

theorem areInflows_any (w : World) (aa : Option Addr) (n ca : Nat) (xs : List Int) (ha : Ints w aa n ca xs) :
    Calls Try.prog 68 #[.slice aa n ca] w fun e w' => e = .returned (.bool (infB xs)) ∧ w = w' := by
  have HA := Lib.hid ha; clear ha
  have hm := HA.out.2.2.1
  by_cases hn : n ≤ 100
  · have HE := Lib.hid (show infB xs = allB 0 60 xs by unfold infB; rw [decide_eq_true (by have := HA.out.len; omega), Bool.true_and])
    go_enter Try.func68, Try.ntmps68
    go_wp2
    go_loop [10] (fun i => ∃ k : Nat, k ≤ n ∧ i = .int .i64 k ∧ ∀ j, j < k → inB 0 60 (xs[j]?.getD 0) = true) (fun i => n - (intOf i).toNat)
    case atStart => exact ⟨0, Nat.zero_le _, rfl, fun j hj => absurd hj (by omega)⟩
    case round =>
      obtain ⟨k, hk, rfl, hpre⟩ := hrel
      have HP := Lib.hid hpre; clear hpre
      by_cases hlt : k < n
      · obtain ⟨b, o, rfl, hc, _⟩ := HA.out.at hlt
        go_wp2_with (go_at_call 51; refine (isInflow_any _ _).mono ?_; rintro e w' ⟨rfl, rfl⟩)
        · have hb : inB 0 60 (xs[k]?.getD 0) = false := by rw [← Bool.not_eq_true']; assumption
          go_ret
          refine ⟨ret_bool ?_, rfl⟩
          symm
          rw [HE.out, ← Bool.not_eq_true, allB_iff]
          intro h
          rw [inB_false] at hb
          exact hb (h k (by have := HA.out.len; omega))
        · have hb : inB 0 60 (xs[k]?.getD 0) = true := by rw [← Bool.not_eq_false']; assumption
          go_round
          case rel =>
            refine ⟨k + 1, by omega, by go_num, fun j hj => ?_⟩
            by_cases e : j = k
            · subst e; exact hb
            · exact HP.out j (by omega)
          case measure => simp [intOf]; omega
      · go_wp2
        go_ret
        refine ⟨ret_bool ?_, rfl⟩
        symm
        rw [HE.out, allB_iff]
        intro j hj
        exact inB_iff.1 (HP.out j (by have := HA.out.len; omega))
  · have HE := Lib.hid (show infB xs = false by unfold infB; rw [decide_eq_false (by have := HA.out.len; omega), Bool.false_and])
    go_enter Try.func68, Try.ntmps68
    go_wp2
    go_ret
    exact ⟨ret_bool HE.out.symm, rfl⟩

theorem Try.infoLevel2 : (Try.prog.info? 27).map (fun i => (i.zero, i.size, i.bytes)) = some (some (.agg #[.int .i64 0, .bool false]), 2, 16) := by kernel_rfl

set_option maxRecDepth 100000 in
set_option maxHeartbeats 8000000 in
theorem courseOf_yes (w : World) (a b c d u : Int) (r : Bool) (aa : Option Addr) (n ca : Nat) (xs : List Int) (hx : Ints w aa n ca xs) (hr : runB a b c d u xs = true) :
    Calls Try.prog 47 #[sipV a b c d, levV u r, .slice aa n ca] w fun e w' => ∃ la ln lc oa on oc, e = .returned (.tuple #[.agg #[.slice la ln lc, .slice oa on oc, .int .i64 (spK a b c d u r xs xs.length)], .bool true]) ∧
      OwnLevel w' w.heap.size w'.heap.size la ln lc (levsTo a b c d u r xs xs.length) ∧ Own w' w.heap.size w'.heap.size oa on oc (outsTo a b c d u r xs xs.length) ∧ New w w' := by
  obtain ⟨⟨hs, h0, h1⟩, hl, hb⟩ := runB_iff.1 hr
  have q1 : sipB a b c d = true := sipB_iff.2 hs
  have q2 : inB 0 a u = true := inB_iff.2 ⟨h0, h1⟩
  have q3 : infB xs = true := infB_iff.2 ⟨hl, hb⟩
  have HS := Lib.hid hs; clear hs
  have HB := Lib.hid hb; clear hb
  have hn : n ≤ 100 := by have := hx.1; omega
  have HL := Lib.hid hx.1
  have HX := Lib.hid hx; clear hx hl hr
  obtain ⟨i0, hi, hz0, hz1, hz2⟩ := info_parts Try.infoInt
  obtain ⟨i1, hj, hy0, hy1, hy2⟩ := info_parts Try.infoLevel2
  go_enter Try.func47, Try.ntmps47
  go_wp2_with fail
  refine (iIsSiphon_any _ _ _ _ _).mono ?_
  rintro e w1 ⟨rfl, n1⟩
  obtain ⟨hc1, hf1, hz1'⟩ := bcell n1
  (try simp at hz1')
  have z10 : w.heap.size < w1.heap.size := by omega
  have z11 : w.heap.size + 1 < w1.heap.size := by omega
  have N1 := Lib.hid (show New w w1 from New.trans (by repeat (first | with_reducible exact New.refl _ | with_reducible assumption | refine New.drewN ?_ _ | refine New.drew ?_ | refine New.alloc ?_ _ | refine New.setCell ?_ (by first | omega | (simp; omega) | (simp; done)) _ | (refine New.trans ?_ (by assumption)))) n1)
  have M1 := Lib.hid n1; clear n1
  go_wp2_with fail
  refine (isLevelIn_any _ _ _ _ _ _ _).mono ?_
  rintro e w2 ⟨rfl, n2⟩
  have M2 := Lib.hid (M1.out.trans n2); clear n2
  have N2 := Lib.hid (show New w w2 from New.trans (by repeat (first | with_reducible exact New.refl _ | with_reducible assumption | refine New.drewN ?_ _ | refine New.drew ?_ | refine New.alloc ?_ _ | refine New.setCell ?_ (by first | omega | (simp; omega) | (simp; done)) _ | (refine New.trans ?_ (by assumption)))) M2.out)
  clear hc1 hf1 hz1' z10 z11
  go_wp2_with fail
  refine (areInflows_any _ _ _ _ xs (HX.out.new N2.out)).mono ?_
  rintro e w9 ⟨rfl, rfl⟩
  have p0 : w2.cell? ⟨w.heap.size, 0, none⟩ = some (.int .i64 a) := M2.out.cell (by simp [go_sem])
  have p1 : w2.cell? ⟨w.heap.size, 1, none⟩ = some (.int .i64 b) := M2.out.cell (by simp [go_sem])
  have p2 : w2.cell? ⟨w.heap.size, 2, none⟩ = some (.int .i64 c) := M2.out.cell (by simp [go_sem])
  have p3 : w2.cell? ⟨w.heap.size, 3, none⟩ = some (.int .i64 d) := M2.out.cell (by simp [go_sem])
  have l0 : w2.cell? ⟨w.heap.size + 1, 0, none⟩ = some (.int .i64 u) := M2.out.cell (by simp [go_sem])
  have l1 : w2.cell? ⟨w.heap.size + 1, 1, none⟩ = some (.bool r) := M2.out.cell (by simp [go_sem])
  have g0 : w2.frozen? ⟨w.heap.size + 1, 0, none⟩ = false := M2.out.frz (v := .int .i64 u) (by simp [go_sem]) (by simp [go_sem])
  have g1 : w2.frozen? ⟨w.heap.size + 1, 1, none⟩ = false := M2.out.frz (v := .bool r) (by simp [go_sem]) (by simp [go_sem])
  have t0 : w2.cell? ⟨w.heap.size + 1 + 1, 0, none⟩ = some (.slice none 0 0) := M2.out.cell (by simp [go_sem])
  have t1 : w2.cell? ⟨w.heap.size + 1 + 1, 1, none⟩ = some (.slice none 0 0) := M2.out.cell (by simp [go_sem])
  have t2 : w2.cell? ⟨w.heap.size + 1 + 1, 2, none⟩ = some (.int .i64 0) := M2.out.cell (by simp [go_sem])
  have s0 : w2.frozen? ⟨w.heap.size + 1 + 1, 0, none⟩ = false := M2.out.frz (v := .slice none 0 0) (by simp [go_sem]) (by simp [go_sem])
  have s1 : w2.frozen? ⟨w.heap.size + 1 + 1, 1, none⟩ = false := M2.out.frz (v := .slice none 0 0) (by simp [go_sem]) (by simp [go_sem])
  have s2 : w2.frozen? ⟨w.heap.size + 1 + 1, 2, none⟩ = false := M2.out.frz (v := .int .i64 0) (by simp [go_sem]) (by simp [go_sem])
  have zR : w.heap.size + 1 + 1 < w2.heap.size := World.block_lt_of_cell? _ _ t0
  go_wp2
  clear q1 q2 q3
  obtain ⟨v0, hv0⟩ : ∃ v, v = (w2.alloc (.cells #[.int .i64 u, .bool r] 27)).alloc (.cells #[.slice (some ⟨w2.heap.size, 0, none⟩) 1 1, .slice none 0 0, .int .i64 0] 76) := ⟨_, rfl⟩
  rw [← hv0]
  have nv : New w2 v0 := by rw [hv0]; exact (by repeat (first | with_reducible exact New.refl _ | with_reducible assumption | refine New.drewN ?_ _ | refine New.drew ?_ | refine New.alloc ?_ _ | refine New.setCell ?_ (by first | omega | (simp; omega) | (simp; done)) _ | (refine New.trans ?_ (by assumption))))
  have PP := Lib.hid (And.intro (nv.cell p0) (And.intro (nv.cell p1) (And.intro (nv.cell p2) (nv.cell p3)))); clear p0 p1 p2 p3
  have TT := Lib.hid (And.intro (nv.cell t0) (And.intro (nv.cell t1) (nv.cell t2)))
  have TF := Lib.hid (And.intro (nv.frz t0 s0) (And.intro (nv.frz t1 s1) (nv.frz t2 s2))); clear t0 t1 t2 s0 s1 s2
  have RR : RunC v0 v0 (w.heap.size + 1) w2.heap.size (w2.heap.size + 1) 3 27 (.int .i64 u) (.bool r) (.slice (some ⟨w2.heap.size, 0, none⟩) 1 1) (.slice none 0 0) (.int .i64 0) (.slice (some ⟨w2.heap.size, 0, none⟩) 1 1) 1 [.int .i64 u, .bool r] (.slice none 0 0) 0 [] := by
    refine ⟨Below.refl _ _, fun _ _ _ => rfl, by omega, by omega, nv.cell l0, nv.cell l1, nv.frz l0 g0, nv.frz l1 g1, by rw [hv0]; simp [go_sem], by rw [hv0]; simp [go_sem], by rw [hv0]; simp [go_sem], by rw [hv0]; simp [go_sem], by rw [hv0]; simp [go_sem], by rw [hv0]; simp [go_sem], ?_, World.ownsRow_nil _ _ _ _, by simp [Value.ownBlock], by simp [Value.ownBlock], fun g _ e => by simp [Value.ownBlock] at e⟩
    rw [hv0]
    exact ownsRow_new (ownsRow_lit2 _ _ _ rfl (Nat.le_refl _)) (by repeat (first | with_reducible exact New.refl _ | with_reducible assumption | refine New.drewN ?_ _ | refine New.drew ?_ | refine New.alloc ?_ _ | refine New.setCell ?_ (by first | omega | (simp; omega) | (simp; done)) _ | (refine New.trans ?_ (by assumption))))
  have NV := Lib.hid (N2.out.trans nv); clear nv l0 l1 g0 g1
  have RR0 := Lib.hid RR; clear RR
  clear hv0
  go_loopw [34] (fun i wr => ∃ (k : Nat) (vl vo : Value), k ≤ n ∧ i = .int .i64 k ∧
    RunC v0 wr (w.heap.size + 1) w2.heap.size (w2.heap.size + 1) 3 27 (.int .i64 (stK a b c d u r xs k).1) (.bool (stK a b c d u r xs k).2) vl vo (.int .i64 (spK a b c d u r xs k)) vl (k + 1) (flatLevel (levsTo a b c d u r xs k)) vo k ((outsTo a b c d u r xs k).map (Value.int .i64))) (fun i _ => n - (intOf i).toNat)
  case atStart => exact ⟨0, _, _, Nat.zero_le _, rfl, RR0.out⟩
  case round =>
    obtain ⟨k, vl, vo, hk, rfl, hrr⟩ := hrel
    have RR := Lib.hid hrr; clear hrr
    have NW := Lib.hid (RR.out.since NV.out (by omega))
    have sb := stK_bd (r := r) HS.out h0 h1 HB.out k (by have := HL.out; omega)
    have sp := spK_bd (r := r) HS.out h0 h1 HB.out k (by have := HL.out; omega)
    obtain ⟨sb0, sb1⟩ := sb
    obtain ⟨sp0, sp1⟩ := sp
    by_cases hlt : k < n
    · obtain ⟨bx, ox, rfl, hc, hbx⟩ := (HX.out.new NW.out).at hlt
      obtain ⟨x0, x1⟩ := HB.out k (by have := HL.out; omega)
      have ts := tkS_bd a (stK a b c d u r xs k).1 (xs[k]?.getD 0) sb1 x1
      obtain ⟨ts0, ts1⟩ := ts
      have l0 := RR.out.l0
      have l1 := RR.out.l1
      have p0 := RR.out.old PP.out.1 (by simp; omega) (by simp)
      have p1 := RR.out.old PP.out.2.1 (by simp; omega) (by simp)
      have p2 := RR.out.old PP.out.2.2.1 (by simp; omega) (by simp)
      have p3 := RR.out.old PP.out.2.2.2 (by simp; omega) (by simp)
      go_wp2_with fail
      refine (siphonTick_any _ _ _ _ _ _ _ _ HS.out sb0 sb1 x0 x1).mono ?_
      rintro e w3 ⟨rfl, n3⟩
      have RR1 := Lib.hid (RR.out.kept n3); clear n3 hc p0 p1 p2 p3 l0 l1
      have zb := RR1.out.bsize
      have c0 := RR1.out.c0
      have c1 := RR1.out.c1
      have c2 := RR1.out.c2
      have f0 := RR1.out.f0
      have f1 := RR1.out.f1
      have f2 := RR1.out.f2
      have z3 : w.heap.size + 1 < w3.heap.size := by omega
      have lv := (RR1.out.levs.lt)
      have lw := (RR1.out.outs.lt)
      have LV := Lib.hid lv; clear lv
      have LW := Lib.hid lw; clear lw
      go_wp2_with (first
        | (at_builtin; refine wpList_append_lies _ (by rfl) (.tmp 47) (.tmp 49) 33 (by rfl) w2.heap.size 27 i1 _ 2 16 Try.underlying33 hj hy0 hy1 hy2 rfl (by decide) _ (k + 1) _ (by rfl) ((RR1.out.kept (by repeat (first | with_reducible exact New.refl _ | with_reducible assumption | refine New.drewN ?_ _ | refine New.drew ?_ | refine New.alloc ?_ _ | refine New.setCell ?_ (by first | omega | (simp; omega) | (simp; done)) _ | (refine New.trans ?_ (by assumption))))).levs) _ _ _ [.int .i64 (tkH a b c d (stK a b c d u r xs k).1 (xs[k]?.getD 0) (stK a b c d u r xs k).2), .bool (tkR a b c d (stK a b c d u r xs k).1 (xs[k]?.getD 0) (stK a b c d u r xs k).2)] (by rfl) (by rfl) (World.news_of_block (cs := #[.int .i64 (tkH a b c d (stK a b c d u r xs k).1 (xs[k]?.getD 0) (stK a b c d u r xs k).2), .bool (tkR a b c d (stK a b c d u r xs k).1 (xs[k]?.getD 0) (stK a b c d u r xs k).2)]) (t := 27) (fr := (0, 0)) (heap_alloc_at (by simp))) (by simp [Value.oneCell']) (by omega) (by unfold maxLen; omega) (by omega) (by simp; omega) _ rfl ?_; intro g cap w4 ho hg hb' hlt'; have b0 : w4.cell? ⟨w3.heap.size, 0, none⟩ = some (.int .i64 (tkH a b c d (stK a b c d u r xs k).1 (xs[k]?.getD 0) (stK a b c d u r xs k).2)) := hg.cell (by simp) (fun e => by have := (LV.out _ e.symm).2; first | omega | (simp at this; done) | (simp at this; omega)); have b1 : w4.cell? ⟨w3.heap.size, 1, none⟩ = some (.bool (tkR a b c d (stK a b c d u r xs k).1 (xs[k]?.getD 0) (stK a b c d u r xs k).2)) := hg.cell (by simp) (fun e => by have := (LV.out _ e.symm).2; first | omega | (simp at this; done) | (simp at this; omega)); have R2 := RunC.growL (RR1.out.kept (by repeat (first | with_reducible exact New.refl _ | with_reducible assumption | refine New.drewN ?_ _ | refine New.drew ?_ | refine New.alloc ?_ _ | refine New.setCell ?_ (by first | omega | (simp; omega) | (simp; done)) _ | (refine New.trans ?_ (by assumption))))) ho hg hb'; have zz := hg.size; (simp at zz); replace c0 := R2.c0; replace c1 := R2.c1; replace c2 := R2.c2; replace f0 := R2.f0; replace f1 := R2.f1; replace f2 := R2.f2; have RR2 := Lib.hid (RunC.set0 R2 (.slice (some ⟨g, 0, none⟩) (k + 1 + 1) cap)); clear R2 ho hg hb' hlt')
        | (at_builtin; (refine wpList_append_lies _ (by rfl) (.tmp 53) (.tmp 55) 28 (by rfl) w2.heap.size 3 i0 (.int .i64 0) 1 8 Try.underlying28 hi hz0 hz1 hz2 rfl (by decide) _ k _ (by rfl) ((RR2.out.kept (by repeat (first | with_reducible exact New.refl _ | with_reducible assumption | refine New.drewN ?_ _ | refine New.drew ?_ | refine New.alloc ?_ _ | refine New.setCell ?_ (by first | omega | (simp; omega) | (simp; done)) _ | (refine New.trans ?_ (by assumption))))).outs) _ _ _ [.int .i64 (tkO a b c d (stK a b c d u r xs k).1 (xs[k]?.getD 0) (stK a b c d u r xs k).2)] (by rfl) (by rfl) (World.news_of_block (cs := #[.int .i64 (tkO a b c d (stK a b c d u r xs k).1 (xs[k]?.getD 0) (stK a b c d u r xs k).2)]) (t := 3) (fr := (0, 0)) (heap_alloc_at (by simp))) (by simp [Value.oneCell']) (by omega) (by unfold maxLen; omega) (by first | omega | (simp; omega) | (simp; done)) (by first | omega | (simp; omega) | (simp; done)) _ rfl ?_; intro g5 cap5 w5 ho5 hg5 hb5 hlt5; replace b0 : w5.cell? ⟨w3.heap.size, 0, none⟩ = some (.int .i64 (tkH a b c d (stK a b c d u r xs k).1 (xs[k]?.getD 0) (stK a b c d u r xs k).2)) := hg5.cell (World.cell_kept (World.cell_set b0 (by first | omega | (simp; omega) | (simp; done)))) (fun e => by have := (LW.out _ e.symm).2; first | omega | (simp at this; done) | (simp at this; omega)); replace b1 : w5.cell? ⟨w3.heap.size, 1, none⟩ = some (.bool (tkR a b c d (stK a b c d u r xs k).1 (xs[k]?.getD 0) (stK a b c d u r xs k).2)) := hg5.cell (World.cell_kept (World.cell_set b1 (by first | omega | (simp; omega) | (simp; done)))) (fun e => by have := (LW.out _ e.symm).2; first | omega | (simp at this; done) | (simp at this; omega)); have R3 := RunC.growO (RR2.out.kept (by repeat (first | with_reducible exact New.refl _ | with_reducible assumption | refine New.drewN ?_ _ | refine New.drew ?_ | refine New.alloc ?_ _ | refine New.setCell ?_ (by first | omega | (simp; omega) | (simp; done)) _ | (refine New.trans ?_ (by assumption))))) ho5 hg5 hb5; have zy := hg5.size; (simp at zy); replace c0 := R3.c0; replace c1 := R3.c1; replace c2 := R3.c2; replace f0 := R3.f0; replace f1 := R3.f1; replace f2 := R3.f2; have h0' := R3.l0; have h1' := R3.l1; have k0' := R3.g0; have k1' := R3.g1; have RR3 := Lib.hid (RunC.set1 R3 (.slice (some ⟨g5, 0, none⟩) (k + 1) cap5)); clear R3 ho5 hg5 hb5 hlt5)))
      go_roundw
      case rel =>
        refine ⟨k + 1, .slice (some ⟨g, 0, none⟩) (k + 1 + 1) cap, .slice (some ⟨g5, 0, none⟩) (k + 1) cap5, by omega, by go_num, ?_⟩
        rw [outsTo_succ, List.map_append, levsTo_succ, flatLevel_append]
        exact (RR3.out.set2 _).put _ _
      case measure => simp [intOf]; omega
    · obtain rfl : k = n := by omega
      obtain ⟨la, lc, e1, o1⟩ := OwnLevel.of_row RR.out.levs
      obtain ⟨oa, oc, e2, o2⟩ := Own.of_row RR.out.outs
      subst e1 e2
      have c0 := RR.out.c0
      have c1 := RR.out.c1
      have c2 := RR.out.c2
      have t0 := RR.out.old TT.out.1 (by simp; omega) (by simp)
      have t1 := RR.out.old TT.out.2.1 (by simp; omega) (by simp)
      have t2 := RR.out.old TT.out.2.2 (by simp; omega) (by simp)
      have s0 := RR.out.warm TF.out.1 (by simp; omega) (by simp)
      have s1 := RR.out.warm TF.out.2.1 (by simp; omega) (by simp)
      have s2 := RR.out.warm TF.out.2.2 (by simp; omega) (by simp)
      have O1 := Lib.hid o1; clear o1
      have O2 := Lib.hid o2; clear o2
      go_wp2
      have nn := NW.out
      have ek := HL.out
      subst ek
      refine bodyPost_ret (v := .tuple #[.agg #[.slice la (xs.length + 1) lc, .slice oa xs.length oc, .int .i64 (spK a b c d u r xs xs.length)], .bool true]) (by simp [results, Try.results47, go_sem, t0, t1, t2]) rfl ⟨la, _, lc, oa, _, oc, rfl, ?_, ?_, (by repeat (first | with_reducible exact New.refl _ | with_reducible assumption | refine New.drewN ?_ _ | refine New.drew ?_ | refine New.alloc ?_ _ | refine New.setCell ?_ (by first | omega | (simp; omega) | (simp; done)) _ | (refine New.trans ?_ (by assumption))))⟩
      · exact (((O1.out.setCell (.inl (by simp; omega)) _).setCell (.inl (by simp; omega)) _).setCell (.inl (by simp; omega)) _).mono (by omega) (by simp)
      · exact (((O2.out.setCell (.inl (by simp; omega)) _).setCell (.inl (by simp; omega)) _).setCell (.inl (by simp; omega)) _).mono (by omega) (by simp)

theorem courseOf_no (w : World) (a b c d u : Int) (r : Bool) (aa : Option Addr) (n ca : Nat) (xs : List Int) (hx : Ints w aa n ca xs) (hr : runB a b c d u xs = false) :
    Calls Try.prog 47 #[sipV a b c d, levV u r, .slice aa n ca] w fun e w' => e = .returned (.tuple #[.agg #[.slice none 0 0, .slice none 0 0, .int .i64 0], .bool false]) ∧ New w w' := by
  have HX := Lib.hid hx; clear hx
  by_cases hs : sipB a b c d = true
  · by_cases hl : inB 0 a u = true
    · have hi : infB xs = false := by
        unfold runB levB at hr
        rw [hs, hl] at hr
        simpa using hr
      clear hr
      go_enter Try.func47, Try.ntmps47
      go_wp2_with fail
      refine (iIsSiphon_any _ _ _ _ _).mono ?_
      rintro e w1 ⟨rfl, n1⟩
      obtain ⟨hc1, hf1, hz1'⟩ := bcell n1
      (try simp at hz1')
      have z10 : w.heap.size < w1.heap.size := by omega
      have z11 : w.heap.size + 1 < w1.heap.size := by omega
      have M1 := Lib.hid n1; clear n1
      go_wp2_with fail
      refine (isLevelIn_any _ _ _ _ _ _ _).mono ?_
      rintro e w2 ⟨rfl, n2⟩
      have M2 := Lib.hid (M1.out.trans n2); clear n2
      have N2 := Lib.hid (show New w w2 from New.trans (by repeat (first | with_reducible exact New.refl _ | with_reducible assumption | refine New.drewN ?_ _ | refine New.drew ?_ | refine New.alloc ?_ _ | refine New.setCell ?_ (by first | omega | (simp; omega) | (simp; done)) _ | (refine New.trans ?_ (by assumption)))) M2.out)
      clear hc1 hf1 hz1' z10 z11
      go_wp2_with fail
      refine (areInflows_any _ _ _ _ xs (HX.out.new N2.out)).mono ?_
      rintro e w9 ⟨rfl, rfl⟩
      have t0 : w2.cell? ⟨w.heap.size + 1 + 1, 0, none⟩ = some (.slice none 0 0) := M2.out.cell (by simp [go_sem])
      have t1 : w2.cell? ⟨w.heap.size + 1 + 1, 1, none⟩ = some (.slice none 0 0) := M2.out.cell (by simp [go_sem])
      have t2 : w2.cell? ⟨w.heap.size + 1 + 1, 2, none⟩ = some (.int .i64 0) := M2.out.cell (by simp [go_sem])
      have s0 : w2.frozen? ⟨w.heap.size + 1 + 1, 0, none⟩ = false := M2.out.frz (v := .slice none 0 0) (by simp [go_sem]) (by simp [go_sem])
      have s1 : w2.frozen? ⟨w.heap.size + 1 + 1, 1, none⟩ = false := M2.out.frz (v := .slice none 0 0) (by simp [go_sem]) (by simp [go_sem])
      have s2 : w2.frozen? ⟨w.heap.size + 1 + 1, 2, none⟩ = false := M2.out.frz (v := .int .i64 0) (by simp [go_sem]) (by simp [go_sem])
      go_wp2
      have nn := N2.out
      refine bodyPost_ret (v := .tuple #[.agg #[.slice none 0 0, .slice none 0 0, .int .i64 0], .bool false]) (by simp [results, Try.results47, go_sem, t0, t1, t2]) rfl ⟨rfl, (by repeat (first | with_reducible exact New.refl _ | with_reducible assumption | refine New.drewN ?_ _ | refine New.drew ?_ | refine New.alloc ?_ _ | refine New.setCell ?_ (by first | omega | (simp; omega) | (simp; done)) _ | (refine New.trans ?_ (by assumption))))⟩
    · have hl' : inB 0 a u = false := by simpa using hl
      clear hr
      go_enter Try.func47, Try.ntmps47
      go_wp2_with fail
      refine (iIsSiphon_any _ _ _ _ _).mono ?_
      rintro e w1 ⟨rfl, n1⟩
      obtain ⟨hc1, hf1, hz1'⟩ := bcell n1
      (try simp at hz1')
      have z10 : w.heap.size < w1.heap.size := by omega
      have z11 : w.heap.size + 1 < w1.heap.size := by omega
      have M1 := Lib.hid n1; clear n1
      go_wp2_with fail
      refine (isLevelIn_any _ _ _ _ _ _ _).mono ?_
      rintro e w2 ⟨rfl, n2⟩
      have M2 := Lib.hid (M1.out.trans n2); clear n2
      have N2 := Lib.hid (show New w w2 from New.trans (by repeat (first | with_reducible exact New.refl _ | with_reducible assumption | refine New.drewN ?_ _ | refine New.drew ?_ | refine New.alloc ?_ _ | refine New.setCell ?_ (by first | omega | (simp; omega) | (simp; done)) _ | (refine New.trans ?_ (by assumption)))) M2.out)
      clear hc1 hf1 hz1' z10 z11
      have t0 : w2.cell? ⟨w.heap.size + 1 + 1, 0, none⟩ = some (.slice none 0 0) := M2.out.cell (by simp [go_sem])
      have t1 : w2.cell? ⟨w.heap.size + 1 + 1, 1, none⟩ = some (.slice none 0 0) := M2.out.cell (by simp [go_sem])
      have t2 : w2.cell? ⟨w.heap.size + 1 + 1, 2, none⟩ = some (.int .i64 0) := M2.out.cell (by simp [go_sem])
      have s0 : w2.frozen? ⟨w.heap.size + 1 + 1, 0, none⟩ = false := M2.out.frz (v := .slice none 0 0) (by simp [go_sem]) (by simp [go_sem])
      have s1 : w2.frozen? ⟨w.heap.size + 1 + 1, 1, none⟩ = false := M2.out.frz (v := .slice none 0 0) (by simp [go_sem]) (by simp [go_sem])
      have s2 : w2.frozen? ⟨w.heap.size + 1 + 1, 2, none⟩ = false := M2.out.frz (v := .int .i64 0) (by simp [go_sem]) (by simp [go_sem])
      go_wp2
      have nn := N2.out
      refine bodyPost_ret (v := .tuple #[.agg #[.slice none 0 0, .slice none 0 0, .int .i64 0], .bool false]) (by simp [results, Try.results47, go_sem, t0, t1, t2]) rfl ⟨rfl, (by repeat (first | with_reducible exact New.refl _ | with_reducible assumption | refine New.drewN ?_ _ | refine New.drew ?_ | refine New.alloc ?_ _ | refine New.setCell ?_ (by first | omega | (simp; omega) | (simp; done)) _ | (refine New.trans ?_ (by assumption))))⟩
  · have hs' : sipB a b c d = false := by simpa using hs
    clear hr
    go_enter Try.func47, Try.ntmps47
    go_wp2_with fail
    refine (iIsSiphon_any _ _ _ _ _).mono ?_
    rintro e w1 ⟨rfl, n1⟩
    have t0 : w1.cell? ⟨w.heap.size + 1 + 1, 0, none⟩ = some (.slice none 0 0) := n1.cell (by simp [go_sem])
    have t1 : w1.cell? ⟨w.heap.size + 1 + 1, 1, none⟩ = some (.slice none 0 0) := n1.cell (by simp [go_sem])
    have t2 : w1.cell? ⟨w.heap.size + 1 + 1, 2, none⟩ = some (.int .i64 0) := n1.cell (by simp [go_sem])
    have s0 : w1.frozen? ⟨w.heap.size + 1 + 1, 0, none⟩ = false := n1.frz (v := .slice none 0 0) (by simp [go_sem]) (by simp [go_sem])
    have s1 : w1.frozen? ⟨w.heap.size + 1 + 1, 1, none⟩ = false := n1.frz (v := .slice none 0 0) (by simp [go_sem]) (by simp [go_sem])
    have s2 : w1.frozen? ⟨w.heap.size + 1 + 1, 2, none⟩ = false := n1.frz (v := .int .i64 0) (by simp [go_sem]) (by simp [go_sem])
    have nn : New w w1 := New.trans (by repeat (first | with_reducible exact New.refl _ | with_reducible assumption | refine New.drewN ?_ _ | refine New.drew ?_ | refine New.alloc ?_ _ | refine New.setCell ?_ (by first | omega | (simp; omega) | (simp; done)) _ | (refine New.trans ?_ (by assumption)))) n1
    go_wp2
    refine bodyPost_ret (v := .tuple #[.agg #[.slice none 0 0, .slice none 0 0, .int .i64 0], .bool false]) (by simp [results, Try.results47, go_sem, t0, t1, t2]) rfl ⟨rfl, (by repeat (first | with_reducible exact New.refl _ | with_reducible assumption | refine New.drewN ?_ _ | refine New.drew ?_ | refine New.alloc ?_ _ | refine New.setCell ?_ (by first | omega | (simp; omega) | (simp; done)) _ | (refine New.trans ?_ (by assumption))))⟩

theorem courseOf_any (w : World) (a b c d u : Int) (r : Bool) (aa : Option Addr) (n ca : Nat) (xs : List Int) (hx : Ints w aa n ca xs) :
    Calls Try.prog 47 #[sipV a b c d, levV u r, .slice aa n ca] w fun e w' => ∃ la ln lc oa on oc, e = .returned (.tuple #[.agg #[.slice la ln lc, .slice oa on oc, .int .i64 (spM a b c d u r xs)], .bool (runB a b c d u xs)]) ∧
      OwnLevel w' w.heap.size w'.heap.size la ln lc (levsM a b c d u r xs) ∧ Own w' w.heap.size w'.heap.size oa on oc (outsM a b c d u r xs) ∧ New w w' := by
  by_cases hr : runB a b c d u xs = true
  · refine (courseOf_yes w a b c d u r aa n ca xs hx hr).mono ?_
    rintro e w' ⟨la, ln, lc, oa, on, oc, rfl, h1, h2, h3⟩
    refine ⟨la, ln, lc, oa, on, oc, ?_, ?_, ?_, h3⟩
    · unfold spM; rw [if_pos hr, hr]
    · unfold levsM; rw [if_pos hr]; exact h1
    · unfold outsM; rw [if_pos hr]; exact h2
  · have hf : runB a b c d u xs = false := by simpa using hr
    refine (courseOf_no w a b c d u r aa n ca xs hx hf).mono ?_
    rintro e w' ⟨rfl, h3⟩
    refine ⟨none, 0, 0, none, 0, 0, ?_, ?_, ?_, h3⟩
    · unfold spM; rw [if_neg hr, hf]
    · unfold levsM; rw [if_neg hr]; exact OwnLevel.nil _ _ _
    · unfold outsM; rw [if_neg hr]; exact Own.nil _ _ _

theorem iOutsOf_any (w : World) (a b c d u : Int) (r : Bool) (aa : Option Addr) (n ca : Nat) (xs : List Int) (hx : Ints w aa n ca xs) :
    Calls Try.prog 7 #[sipV a b c d, levV u r, .slice aa n ca] w fun e w' => ∃ oa on oc, e = .returned (.tuple #[.slice oa on oc, .bool (runB a b c d u xs)]) ∧ Own w' w.heap.size w'.heap.size oa on oc (outsM a b c d u r xs) ∧ New w w' := by
  have HX := Lib.hid hx; clear hx
  go_enter Try.func7, Try.ntmps7
  go_wp2_with fail
  refine (courseOf_any _ _ _ _ _ _ _ _ _ _ xs (HX.out.new (by repeat (first | with_reducible exact New.refl _ | with_reducible assumption | refine New.drewN ?_ _ | refine New.drew ?_ | refine New.alloc ?_ _ | refine New.setCell ?_ (by first | omega | (simp; omega) | (simp; done)) _ | (refine New.trans ?_ (by assumption)))))).mono ?_
  rintro e w1 ⟨la, ln, lc, oa, on, oc, rfl, o1, o2, n1⟩
  simp only [World.size_alloc] at o1 o2
  have O1 := Lib.hid o1; clear o1
  have O2 := Lib.hid o2; clear o2
  have zz := n1.size
  (try simp at zz)
  have N1 := Lib.hid (show New w w1 from New.trans (by repeat (first | with_reducible exact New.refl _ | with_reducible assumption | refine New.drewN ?_ _ | refine New.drew ?_ | refine New.alloc ?_ _ | refine New.setCell ?_ (by first | omega | (simp; omega) | (simp; done)) _ | (refine New.trans ?_ (by assumption)))) n1); clear n1
  go_wp2
  go_ret2
  exact ⟨_, _, _, rfl, (O2.out.mono (by omega) (Nat.le_refl _)).new (by repeat (first | with_reducible exact New.refl _ | with_reducible assumption | refine New.drewN ?_ _ | refine New.drew ?_ | refine New.alloc ?_ _ | refine New.setCell ?_ (by first | omega | (simp; omega) | (simp; done)) _ | (refine New.trans ?_ (by assumption)))) |>.mono (Nat.le_refl _) (by simp), N1.out.trans (by repeat (first | with_reducible exact New.refl _ | with_reducible assumption | refine New.drewN ?_ _ | refine New.drew ?_ | refine New.alloc ?_ _ | refine New.setCell ?_ (by first | omega | (simp; omega) | (simp; done)) _ | (refine New.trans ?_ (by assumption))))⟩

theorem iLevelsOf_any (w : World) (a b c d u : Int) (r : Bool) (aa : Option Addr) (n ca : Nat) (xs : List Int) (hx : Ints w aa n ca xs) :
    Calls Try.prog 9 #[sipV a b c d, levV u r, .slice aa n ca] w fun e w' => ∃ oa on oc, e = .returned (.tuple #[.slice oa on oc, .bool (runB a b c d u xs)]) ∧ OwnLevel w' w.heap.size w'.heap.size oa on oc (levsM a b c d u r xs) ∧ New w w' := by
  have HX := Lib.hid hx; clear hx
  go_enter Try.func9, Try.ntmps9
  go_wp2_with fail
  refine (courseOf_any _ _ _ _ _ _ _ _ _ _ xs (HX.out.new (by repeat (first | with_reducible exact New.refl _ | with_reducible assumption | refine New.drewN ?_ _ | refine New.drew ?_ | refine New.alloc ?_ _ | refine New.setCell ?_ (by first | omega | (simp; omega) | (simp; done)) _ | (refine New.trans ?_ (by assumption)))))).mono ?_
  rintro e w1 ⟨la, ln, lc, oa, on, oc, rfl, o1, o2, n1⟩
  simp only [World.size_alloc] at o1 o2
  have O1 := Lib.hid o1; clear o1
  have O2 := Lib.hid o2; clear o2
  have zz := n1.size
  (try simp at zz)
  have N1 := Lib.hid (show New w w1 from New.trans (by repeat (first | with_reducible exact New.refl _ | with_reducible assumption | refine New.drewN ?_ _ | refine New.drew ?_ | refine New.alloc ?_ _ | refine New.setCell ?_ (by first | omega | (simp; omega) | (simp; done)) _ | (refine New.trans ?_ (by assumption)))) n1); clear n1
  go_wp2
  go_ret2
  exact ⟨_, _, _, rfl, (O1.out.mono (by omega) (Nat.le_refl _)).new (by repeat (first | with_reducible exact New.refl _ | with_reducible assumption | refine New.drewN ?_ _ | refine New.drew ?_ | refine New.alloc ?_ _ | refine New.setCell ?_ (by first | omega | (simp; omega) | (simp; done)) _ | (refine New.trans ?_ (by assumption)))) |>.mono (Nat.le_refl _) (by simp), N1.out.trans (by repeat (first | with_reducible exact New.refl _ | with_reducible assumption | refine New.drewN ?_ _ | refine New.drew ?_ | refine New.alloc ?_ _ | refine New.setCell ?_ (by first | omega | (simp; omega) | (simp; done)) _ | (refine New.trans ?_ (by assumption))))⟩

theorem iSpiltOf_any (w : World) (a b c d u : Int) (r : Bool) (aa : Option Addr) (n ca : Nat) (xs : List Int) (hx : Ints w aa n ca xs) :
    Calls Try.prog 11 #[sipV a b c d, levV u r, .slice aa n ca] w fun e w' => e = .returned (.tuple #[.int .i64 (spM a b c d u r xs), .bool (runB a b c d u xs)]) ∧ New w w' := by
  have HX := Lib.hid hx; clear hx
  go_enter Try.func11, Try.ntmps11
  go_wp2_with fail
  refine (courseOf_any _ _ _ _ _ _ _ _ _ _ xs (HX.out.new (by repeat (first | with_reducible exact New.refl _ | with_reducible assumption | refine New.drewN ?_ _ | refine New.drew ?_ | refine New.alloc ?_ _ | refine New.setCell ?_ (by first | omega | (simp; omega) | (simp; done)) _ | (refine New.trans ?_ (by assumption)))))).mono ?_
  rintro e w1 ⟨la, ln, lc, oa, on, oc, rfl, o1, o2, n1⟩
  simp only [World.size_alloc] at o1 o2
  have O1 := Lib.hid o1; clear o1
  have O2 := Lib.hid o2; clear o2
  have zz := n1.size
  (try simp at zz)
  have N1 := Lib.hid (show New w w1 from New.trans (by repeat (first | with_reducible exact New.refl _ | with_reducible assumption | refine New.drewN ?_ _ | refine New.drew ?_ | refine New.alloc ?_ _ | refine New.setCell ?_ (by first | omega | (simp; omega) | (simp; done)) _ | (refine New.trans ?_ (by assumption)))) n1); clear n1
  go_wp2
  go_ret2
  exact ⟨rfl, N1.out.trans (by repeat (first | with_reducible exact New.refl _ | with_reducible assumption | refine New.drewN ?_ _ | refine New.drew ?_ | refine New.alloc ?_ _ | refine New.setCell ?_ (by first | omega | (simp; omega) | (simp; done)) _ | (refine New.trans ?_ (by assumption))))⟩
end Go.Proofs.Ytfhpmihjfojbnaa
