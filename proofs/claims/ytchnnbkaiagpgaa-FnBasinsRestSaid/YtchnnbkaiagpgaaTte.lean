/- TicksToEmpty: the model's and the program's. -/
import Derived.Test.YtchnnbkaiagpgaaAtRest
import Derived.Test.YtchnnbkaiagpgaaHb
import Derived.BigQuiet
import Derived.Deep.QuietTactic
namespace Go.Proofs.Ytchnnbkaiagpgaa
open Go.RowKit Go.Conc

/-- Whether the first k basins hold behind a tick what they held. -/
def sameK (c : List (Int × Int × Int)) (x : Int) : Nat → Bool
  | 0 => true
  | k + 1 => sameK c x k && decide (leB (c[k]?.getD (0, 0, 0)) (inK c x k) = (c[k]?.getD (0, 0, 0)).2.2)
theorem sameK_iff (c : List (Int × Int × Int)) (x : Int) (k : Nat) : sameK c x k = true ↔ ∀ j, j < k → leB (c[j]?.getD (0, 0, 0)) (inK c x j) = (c[j]?.getD (0, 0, 0)).2.2 := by
  induction k with
  | zero => exact ⟨fun _ j hj => absurd hj (by omega), fun _ => rfl⟩
  | succ k ih =>
    unfold sameK
    rw [Bool.and_eq_true, decide_eq_true_eq, ih]
    constructor
    · rintro ⟨h1, h2⟩ j hj
      by_cases e : j = k
      · subst e; exact h2
      · exact h1 j (by omega)
    · intro h
      exact ⟨fun j hj => h j (by omega), h k (by omega)⟩
theorem sameK_full (c : List (Int × Int × Int)) (x : Int) : sameK c x c.length = true ↔ tickL c x = c := by
  rw [sameK_iff]
  constructor
  · intro h
    apply List.ext_getElem (tickL_length _ _)
    intro j h1 h2
    have e1 : (tickL c x)[j] = (tickL c x)[j]?.getD (0, 0, 0) := by simp [List.getElem?_eq_getElem h1]
    have e2 : c[j] = c[j]?.getD (0, 0, 0) := by simp [List.getElem?_eq_getElem h2]
    rw [e1, e2, tickL_get _ _ _ h2]
    unfold stB
    rw [h j h2]
  · intro h j hj
    have := tickL_get c x j hj
    rw [h] at this
    have e := congrArg (fun b : Int × Int × Int => b.2.2) this
    exact e.symm
theorem tteM_yes {l : List (Int × Int × Int)} {n : Nat} (hl : RowOk l) (hr : Rest 0 l n) (h : heldS (goK 0 l n) = 0) : tteM l = ((n : Int), true) := by
  unfold tteM
  rw [if_pos (rowB_iff.2 hl), hr.eq, if_pos h]
theorem tteM_no {l : List (Int × Int × Int)} {n : Nat} (hl : RowOk l) (hr : Rest 0 l n) (h : heldS (goK 0 l n) ≠ 0) : tteM l = (0, false) := by
  unfold tteM
  rw [if_pos (rowB_iff.2 hl), hr.eq, if_neg h]
theorem tteM_bad {l : List (Int × Int × Int)} (h : rowB l = false) : tteM l = (0, false) := by
  unfold tteM
  rw [h]; rfl

set_option maxRecDepth 100000 in
set_option maxHeartbeats 4000000 in
theorem sTicksToEmpty_any (w : World) (aa : Option Addr) (n ca : Nat) (l : List (Int × Int × Int)) (ha : Basins w aa n ca l) :
    Calls Try.prog 36 #[.slice aa n ca] w fun e w' => e = .returned (.tuple #[.int .i64 (tteM l).1, .bool (tteM l).2]) ∧ New w w' := by
  have HA := Lib.hid ha; clear ha
  by_cases h : rowB l = true
  · have HL := Lib.hid (rowB_iff.1 h)
    go_enter Try.func36, Try.ntmps36
    go_wp2_with fail
    refine (weRow_any _ _ _ _ l HA.out).mono ?_
    rintro e w1 ⟨rfl, n1⟩
    have N1 := Lib.hid n1; clear n1
    have HA1 := Lib.hid (HA.out.new N1.out)
    go_wp2_with fail
    clear h
    go_loopw [0, 4] (fun rw tk wr => ∃ (q : Nat) (ea : Option Addr) (en ec : Nat), tk = .int .i64 q ∧ rw = .slice ea en ec ∧ Basins wr ea en ec (goK 0 l q) ∧ Way 0 l q ∧ New w wr) (fun _ tk _ => muL 0 (goK 0 l (intOf tk).toNat))
    case atStart => exact ⟨0, _, _, _, rfl, rfl, HA1.out, Way.zero _ _, N1.out⟩
    case round =>
      obtain ⟨q, ea, en, ec, rfl, rfl, hbs, hw, hnw⟩ := hrel
      obtain ⟨wq, rfl⟩ : ∃ u : World, u = wr := ⟨_, rfl⟩
      have BS := Lib.hid hbs; clear hbs
      have WY := Lib.hid hw; clear hw
      have NW := Lib.hid hnw; clear hnw HA1 N1
      have sm := WY.out.small HL.out
      have GK := Lib.hid (goK_ok HL.out (Int.le_refl 0) q)
      have LK := Lib.hid (goK_length 0 l q)
      go_wp2_with fail
      refine (weHeld_any _ _ _ _ (goK 0 l q) BS.out GK.out).mono ?_
      rintro e w2 ⟨rfl, n2⟩
      have BS2 := Lib.hid (BS.out.new n2)
      have N2 := Lib.hid (NW.out.trans n2); clear n2
      by_cases hz : heldS (goK 0 l q) = 0
      · have RE := Lib.hid (tteM_yes HL.out (WY.out.rest (empty_rest GK.out hz)) hz)
        go_wp2_with fail
        go_ret2
        exact ⟨by rw [RE.out]; rfl, N2.out⟩
      · go_wp2_with fail
        refine (weTick_any _ _ _ _ (goK 0 l q) 0 BS2.out GK.out (Int.le_refl 0) (by omega)).mono ?_
        rintro e w3 ⟨oa, on, oc, sa, sn, sc, rfl, o1, _, _, n3⟩
        have HZ := Lib.hid hz; clear hz
        have hon := o1.1
        rw [tickL_length, LK.out] at hon
        have ON := Lib.hid hon; clear hon
        have on6 : on ≤ 6 := by have := ON.out; have := HL.out.2.1; omega
        have BS3 := Lib.hid (BS2.out.new n3)
        have NX := Lib.hid o1.reads; clear o1
        have N3 := Lib.hid (N2.out.trans n3); clear n3
        go_wp2_with fail
        go_loopw [8, 28] (fun sv iv wr => ∃ j : Nat, j ≤ on ∧ iv = .int .i64 j ∧ sv = .bool (sameK (goK 0 l q) 0 j) ∧ New w3 wr) (fun _ iv _ => on - (intOf iv).toNat)
        case atStart => exact ⟨0, Nat.zero_le _, rfl, rfl, New.refl _⟩
        case round =>
          obtain ⟨j, hj, rfl, rfl, hn4⟩ := hrel
          have N4 := Lib.hid hn4; clear hn4
          by_cases jlt : j < on
          · have jl : j < (goK 0 l q).length := by have := ON.out; rw [LK.out]; omega
            obtain ⟨bx, ox, rfl, g0, g1, g2⟩ := (NX.out.new N4.out).2.2.2.1 j jlt
            have hen : j < en := by rw [BS3.out.1]; exact jl
            obtain ⟨by', oy, rfl, k0, k1, k2⟩ := (BS3.out.new N4.out).2.2.2.1 j hen
            have he9 := BS3.out.2.2.1
            have et := tickL_get (goK 0 l q) 0 j jl
            rw [et] at g0 g1 g2
            have g0' : wr.cell? ⟨bx, ox + j * 3, none⟩ = some (.int .i64 ((goK 0 l q)[j]?.getD (0, 0, 0)).1) := g0
            have g1' : wr.cell? ⟨bx, ox + j * 3 + 1, none⟩ = some (.int .i64 ((goK 0 l q)[j]?.getD (0, 0, 0)).2.1) := g1
            have g2' : wr.cell? ⟨bx, ox + j * 3 + 2, none⟩ = some (.int .i64 (leB ((goK 0 l q)[j]?.getD (0, 0, 0)) (inK (goK 0 l q) 0 j))) := g2
            clear g0 g1 g2 et
            have ES := Lib.hid (show sameK (goK 0 l q) 0 (j + 1) = (sameK (goK 0 l q) 0 j && decide (leB ((goK 0 l q)[j]?.getD (0, 0, 0)) (inK (goK 0 l q) 0 j) = ((goK 0 l q)[j]?.getD (0, 0, 0)).2.2)) from rfl)
            obtain ⟨sv, hsv⟩ : ∃ sv, sv = sameK (goK 0 l q) 0 j := ⟨_, rfl⟩
            obtain ⟨a, hha⟩ : ∃ a, a = ((goK 0 l q)[j]?.getD (0, 0, 0)).1 := ⟨_, rfl⟩
            obtain ⟨o, hho⟩ : ∃ o, o = ((goK 0 l q)[j]?.getD (0, 0, 0)).2.1 := ⟨_, rfl⟩
            obtain ⟨u, hhu⟩ : ∃ u, u = ((goK 0 l q)[j]?.getD (0, 0, 0)).2.2 := ⟨_, rfl⟩
            obtain ⟨v, hhv⟩ : ∃ v, v = leB ((goK 0 l q)[j]?.getD (0, 0, 0)) (inK (goK 0 l q) 0 j) := ⟨_, rfl⟩
            rw [← hsv, ← hhv, ← hhu] at ES
            rw [← hha] at g0' k0
            rw [← hho] at g1' k1
            rw [← hhu] at k2
            rw [← hhv] at g2'
            rw [← hsv]
            clear hsv hha hho hhu hhv
            have zw : by' < wr.heap.size := World.block_lt_of_cell? _ _ k0
            by_cases hs : sv = true
            · subst hs
              by_cases huv : v = u
              · subst huv
                go_wp2_with fail
                go_quiet (fail)
                go_wp2_with fail
                go_roundw
                case rel => exact ⟨j + 1, by omega, by go_num, by rw [ES.out]; simp, N4.out.trans (by repeat (first | with_reducible exact New.refl _ | with_reducible assumption | refine New.drewN ?_ _ | refine New.drew ?_ | refine New.alloc ?_ _ | refine New.setCell ?_ (by first | omega | (simp; omega) | (simp; done)) _ | (refine New.trans ?_ (by assumption))))⟩
                case measure => simp [intOf]; omega
              · go_wp2_with fail
                go_quiet (fail)
                go_wp2_with fail
                go_roundw
                case rel => exact ⟨j + 1, by omega, by go_num, by rw [ES.out]; simp [huv], N4.out.trans (by repeat (first | with_reducible exact New.refl _ | with_reducible assumption | refine New.drewN ?_ _ | refine New.drew ?_ | refine New.alloc ?_ _ | refine New.setCell ?_ (by first | omega | (simp; omega) | (simp; done)) _ | (refine New.trans ?_ (by assumption))))⟩
                case measure => simp [intOf]; omega
            · have hsf : sv = false := bool_no hs
              subst hsf
              go_wp2_with fail
              go_quiet (fail)
              go_wp2_with fail
              go_roundw
              case rel => exact ⟨j + 1, by omega, by go_num, by rw [ES.out]; simp, N4.out.trans (by repeat (first | with_reducible exact New.refl _ | with_reducible assumption | refine New.drewN ?_ _ | refine New.drew ?_ | refine New.alloc ?_ _ | refine New.setCell ?_ (by first | omega | (simp; omega) | (simp; done)) _ | (refine New.trans ?_ (by assumption))))⟩
              case measure => simp [intOf]; omega
          · obtain rfl : j = on := by omega
            have EQ := Lib.hid (show sameK (goK 0 l q) 0 j = decide (tickL (goK 0 l q) 0 = goK 0 l q) by
              have e : j = (goK 0 l q).length := by rw [LK.out]; exact ON.out
              rw [e]
              by_cases hh : tickL (goK 0 l q) 0 = goK 0 l q
              · rw [decide_eq_true hh]; exact (sameK_full _ _).2 hh
              · rw [decide_eq_false hh]; exact bool_no fun t => hh ((sameK_full _ _).1 t))
            rw [EQ.out]
            by_cases hh : tickL (goK 0 l q) 0 = goK 0 l q
            · have RE := Lib.hid (tteM_no HL.out (WY.out.rest hh) HZ.out)
              rw [decide_eq_true hh]
              go_wp2_with fail
              go_ret2
              exact ⟨by rw [RE.out]; rfl, N3.out.trans N4.out⟩
            · obtain ⟨wy2, mu2⟩ := WY.out.succ HL.out (Int.le_refl 0) hh
              have W2 := Lib.hid (And.intro wy2 mu2); clear wy2 mu2
              rw [decide_eq_false hh]
              clear hh
              go_wp2_with fail
              go_roundw
              case rel => exact ⟨q + 1, _, _, _, by go_num, rfl, NX.out.new N4.out, W2.out.1, N3.out.trans N4.out⟩
              case measure =>
                have := W2.out.2
                simpa [intOf] using this
  · have hf := bool_no h
    have RE := Lib.hid (tteM_bad hf)
    go_enter Try.func36, Try.ntmps36
    go_wp2_with fail
    refine (weRow_any _ _ _ _ l HA.out).mono ?_
    rintro e w1 ⟨rfl, n1⟩
    go_wp2_with fail
    go_ret2
    exact ⟨by rw [RE.out]; rfl, n1⟩

set_option maxRecDepth 100000 in
set_option maxHeartbeats 2000000 in
theorem iTicksToEmpty_any (w : World) (aa : Option Addr) (n ca : Nat) (l : List (Int × Int × Int)) (ha : Basins w aa n ca l) :
    Calls Try.prog 35 #[.slice aa n ca] w fun e w' => e = .returned (.tuple #[.int .i64 (tteM l).1, .bool (tteM l).2]) ∧ New w w' := by
  have HN := Lib.hid ha.1
  have HA := Lib.hid ha; clear ha
  by_cases h : rowB l = true
  · have HL := Lib.hid (rowB_iff.1 h)
    have r1 : 1 ≤ n := by have := HL.out.1; have := HN.out; omega
    have r6 : n ≤ 6 := by have := HL.out.2.1; have := HN.out; omega
    go_enter Try.func35, Try.ntmps35
    go_wp2_with fail
    refine (iIsRow_any _ _ _ _ l HA.out).mono ?_
    rintro e w1 ⟨rfl, n1⟩
    have N1 := Lib.hid n1; clear n1
    go_wp2_with fail
    refine (stateOf_any _ _ _ _ l (HA.out.new N1.out) r1 r6).mono ?_
    rintro e w2 ⟨rfl, n2⟩
    have N2 := Lib.hid (N1.out.trans n2); clear n2
    go_wp2_with fail
    refine (atRest_any _ l 0 HL.out (Int.le_refl 0) (by omega)).mono ?_
    rintro e w3 ⟨N, hr, hN, rfl, n3⟩
    have N3 := Lib.hid (N2.out.trans n3); clear n3
    have RE := Lib.hid hr; clear hr r1 r6
    have GK := Lib.hid (goK_ok HL.out (Int.le_refl 0) N)
    have SR := Lib.hid (fun w => sum_row w (goK 0 l N) GK.out)
    obtain ⟨f0, hf0⟩ : ∃ f0, f0 = basA (goK 0 l N) := ⟨_, rfl⟩
    obtain ⟨m, hm⟩ : ∃ m : Int, m = ((goK 0 l N).length : Int) := ⟨_, rfl⟩
    have er : rowV (goK 0 l N) = Value.agg (stC f0 m).toArray := by show Value.agg (stC (basA (goK 0 l N)) ((goK 0 l N).length : Int)).toArray = _; rw [hf0, hm]
    rw [er] at SR ⊢
    clear er hf0 hm
    have hb := heldK_bd GK.out (goK 0 l N).length (Nat.le_refl _)
    have l6 := GK.out.2.1
    have HB := Lib.hid (show 0 ≤ heldS (goK 0 l N) ∧ heldS (goK 0 l N) ≤ 1000000 by unfold heldS; omega)
    clear hb l6
    go_upto_region 4 with ((with_reducible (show wpList _ _ _ ({ dst := none, op := .store _ _ _, type := _, pos := _, after := _, guard := _ } :: _) _ _)); go_must (refine wpList_store_blk rfl 72 (.tmp 4) (.tmp 13) rfl w3.heap.size 0 (stC (fun _ => (0, 0, 0)) 0) (stC f0 m) 72 rfl rfl (heap_alloc_new _ _) (by simp [stC_length]) (by kernel_rfl) (stC_one _ _) ?_); intro w4 hb_ hc_; have B4 := Lib.hid (WB.eqv hb_.out (splice_zero _ _ rfl)); have N4 := Lib.hid (Chg.new (w0 := w) (N3.out.trans (by repeat (first | with_reducible exact New.refl _ | with_reducible assumption | refine New.drewN ?_ _ | refine New.drew ?_ | refine New.alloc ?_ _ | refine New.setCell ?_ (by first | omega | (simp; omega) | (simp; done)) _ | (refine New.trans ?_ (by assumption))))) hc_ (fun i hi => by have := N3.out.size; omega)); clear hb_ hc_)
    go_wp2_with (refine wpList_load_blk rfl 72 (.tmp 4) rfl w3.heap.size 0 rfl _ (stC f0 m) 72 B4.out (fun j v hv => by rw [Nat.zero_add]; exact hv) _ Try.underlying72 rfl (by kernel_rfl) ?_)
    refine (SR.out _).mono ?_
    rintro e w5 ⟨rfl, n5⟩
    obtain ⟨hv, hhv⟩ : ∃ hv, hv = heldS (goK 0 l N) := ⟨_, rfl⟩
    rw [← hhv] at HB ⊢
    have HV := Lib.hid hhv; clear hhv
    have hb1 := HB.out.1
    by_cases hz : 0 < hv
    · have RT := Lib.hid (tteM_no HL.out RE.out (by rw [← HV.out]; omega))
      go_wp2_with fail
      go_ret2
      exact ⟨by rw [RT.out]; rfl, N4.out.trans n5⟩
    · have RT := Lib.hid (tteM_yes HL.out RE.out (by rw [← HV.out]; omega))
      have hz' : hv ≤ 0 := by omega
      go_wp2_with fail
      go_ret2
      exact ⟨by rw [RT.out]; rfl, N4.out.trans n5⟩
  · have hf := bool_no h
    have RE := Lib.hid (tteM_bad hf)
    go_enter Try.func35, Try.ntmps35
    go_wp2_with fail
    refine (iIsRow_any _ _ _ _ l HA.out).mono ?_
    rintro e w1 ⟨rfl, n1⟩
    go_wp2_with fail
    go_ret2
    exact ⟨by rw [RE.out]; rfl, n1⟩
end Go.Proofs.Ytchnnbkaiagpgaa
