/- SteadyHeld: the model's and the program's. -/
import Derived.Test.YtchnnbkaiagpgaaTte
namespace Go.Proofs.Ytchnnbkaiagpgaa
open Go.RowKit Go.Conc

def frB (l : List (Int × Int × Int)) (x : Int) : Bool := rowB l && inB 0 1000 x
theorem frB_iff {l : List (Int × Int × Int)} {x : Int} : frB l x = true ↔ RowOk l ∧ 0 ≤ x ∧ x ≤ 1000 := by unfold frB; rw [Bool.and_eq_true, rowB_iff, inB_iff]
def hsTo (c : List (Int × Int × Int)) (k : Nat) : List Int := (List.range k).map fun j => (c[j]?.getD (0, 0, 0)).2.2
theorem hsTo_length (c : List (Int × Int × Int)) (k : Nat) : (hsTo c k).length = k := by simp [hsTo]
theorem hsTo_succ (c : List (Int × Int × Int)) (k : Nat) : hsTo c (k + 1) = hsTo c k ++ [(c[k]?.getD (0, 0, 0)).2.2] := by simp [hsTo, List.range_succ]
theorem hsTo_get (c : List (Int × Int × Int)) (k j : Nat) (h : j < k) : (hsTo c k)[j]?.getD 0 = (c[j]?.getD (0, 0, 0)).2.2 := by simp [hsTo, h]
noncomputable def stM (l : List (Int × Int × Int)) (x : Int) : List Int := if frB l x then hsTo (goK x l (restN x l)) l.length else []
theorem stM_small (l : List (Int × Int × Int)) (x : Int) : (stM l x).length ≤ 1048576 := by
  unfold stM
  split
  · rename_i h
    have := (frB_iff.1 h).1.2.1
    rw [hsTo_length]; omega
  · simp

/-! ### the list that a slice of basins reads as -/
theorem Basins.unique {w : World} {ao : Option Addr} {n cap : Nat} {l l' : List (Int × Int × Int)} (h : Basins w ao n cap l) (k : Basins w ao n cap l') : l = l' := by
  have e : l.length = l'.length := h.1.symm.trans k.1
  apply List.ext_getElem e
  intro j h1 h2
  obtain ⟨b, o, ea, c0, c1, c2⟩ := h.2.2.2.1 j (by have := h.1; omega)
  obtain ⟨b', o', ea', d0, d1, d2⟩ := k.2.2.2.1 j (by have := h.1; omega)
  rw [ea] at ea'
  cases ea'
  rw [c0] at d0
  rw [c1] at d1
  rw [c2] at d2
  simp only [List.getElem?_eq_getElem h1, List.getElem?_eq_getElem h2, Option.getD_some, Option.some.injEq, Value.int.injEq, true_and] at d0 d1 d2
  exact Prod.ext d0 (Prod.ext d1 d2)
noncomputable def rowsAt (w : World) (v : Value) : List (Int × Int × Int) := by
  classical exact if h : ∃ l, ∃ ao n cap, v = .slice ao n cap ∧ Basins w ao n cap l then Classical.choose h else []
/-- How far from rest the loop is. -/
noncomputable def shM (x : Int) (wr : World) (rw : Value) : Value → Nat
  | .bool true => muL x (rowsAt wr rw) + 1
  | _ => 0
theorem rowsAt_eq {w : World} {ao : Option Addr} {n cap : Nat} {l : List (Int × Int × Int)} (h : Basins w ao n cap l) : rowsAt w (.slice ao n cap) = l := by
  have k : ∃ l, ∃ ao' n' cap', Value.slice ao n cap = .slice ao' n' cap' ∧ Basins w ao' n' cap' l := ⟨l, ao, n, cap, rfl, h⟩
  unfold rowsAt
  rw [dif_pos k]
  obtain ⟨ao', n', cap', e, hb⟩ := Classical.choose_spec k
  cases e
  exact hb.unique h

set_option maxRecDepth 100000 in
set_option maxHeartbeats 4000000 in
theorem sSteadyHeld_any (w : World) (aa : Option Addr) (n ca : Nat) (l : List (Int × Int × Int)) (x : Int) (ha : Basins w aa n ca l) :
    Calls Try.prog 41 #[.slice aa n ca, .int .i64 x] w fun e w' => ∃ oa on oc, e = .returned (.tuple #[.slice oa on oc, .bool (frB l x)]) ∧ Own w' w.heap.size w'.heap.size oa on oc (stM l x) ∧ New w w' := by
  have HA := Lib.hid ha; clear ha
  by_cases h : rowB l = true
  · by_cases h2 : inB 0 1000 x = true
    · have HL := Lib.hid (rowB_iff.1 h)
      obtain ⟨x0, x1⟩ := inB_iff.1 h2
      have FB := Lib.hid (show frB l x = true by unfold frB; rw [h, h2]; rfl)
      obtain ⟨j0, hi, hz0, hz1, hz2⟩ := info_parts Try.infoInt
      go_enter Try.func41, Try.ntmps41
      go_wp2_with fail
      refine (weRow_any _ _ _ _ l HA.out).mono ?_
      rintro e w1 ⟨rfl, n1⟩
      have N1 := Lib.hid n1; clear n1
      have HA1 := Lib.hid (HA.out.new N1.out)
      go_wp2_with fail
      refine (l1In_any _ _ _ _).mono ?_
      rintro e w9 ⟨rfl, rfl⟩
      go_wp2_with fail
      clear h h2
      go_loopw [0, 6] (fun rw ch wr => ∃ (q : Nat) (ea : Option Addr) (en ec : Nat), rw = .slice ea en ec ∧ Basins wr ea en ec (goK x l q) ∧ New w wr ∧ ((ch = .bool true ∧ Way x l q) ∨ (ch = .bool false ∧ Rest x l q))) (fun rw ch wr => shM x wr rw ch)
      case atStart => exact ⟨0, _, _, _, rfl, HA1.out, N1.out, .inl ⟨rfl, Way.zero _ _⟩⟩
      case round =>
        obtain ⟨q, ea, en, ec, rfl, hbs, hnw, hcase⟩ := hrel
        obtain ⟨wq, rfl⟩ : ∃ u : World, u = wr := ⟨_, rfl⟩
        have BS := Lib.hid hbs; clear hbs
        have NW := Lib.hid hnw; clear hnw HA1 N1
        have GK := Lib.hid (goK_ok HL.out x0 q)
        have LK := Lib.hid (goK_length x l q)
        rcases hcase with ⟨rfl, hw⟩ | ⟨rfl, hr⟩
        · have WY := Lib.hid hw; clear hw
          have RA := Lib.hid (rowsAt_eq BS.out)
          go_wp2_with fail
          refine (weTick_any _ _ _ _ (goK x l q) x BS.out GK.out x0 x1).mono ?_
          rintro e w3 ⟨oa, on, oc, sa, sn, sc, rfl, o1, _, _, n3⟩
          have hon := o1.1
          rw [tickL_length, LK.out] at hon
          have ON := Lib.hid hon; clear hon
          have on6 : on ≤ 6 := by have := ON.out; have := HL.out.2.1; omega
          have BS3 := Lib.hid (BS.out.new n3)
          have NX := Lib.hid o1.reads; clear o1
          have N3 := Lib.hid (NW.out.trans n3); clear n3
          go_wp2_with fail
          go_loopw [6, 33] (fun sv iv wr => ∃ j : Nat, j ≤ on ∧ iv = .int .i64 j ∧ sv = .bool (!sameK (goK x l q) x j) ∧ New w3 wr) (fun _ iv _ => on - (intOf iv).toNat)
          case atStart => exact ⟨0, Nat.zero_le _, rfl, rfl, New.refl _⟩
          case round =>
            obtain ⟨j, hj, rfl, rfl, hn4⟩ := hrel
            have N4 := Lib.hid hn4; clear hn4
            by_cases jlt : j < on
            · have jl : j < (goK x l q).length := by have := ON.out; rw [LK.out]; omega
              obtain ⟨bx, ox, rfl, g0, g1, g2⟩ := (NX.out.new N4.out).2.2.2.1 j jlt
              have hen : j < en := by rw [BS3.out.1]; exact jl
              obtain ⟨by', oy, rfl, k0, k1, k2⟩ := (BS3.out.new N4.out).2.2.2.1 j hen
              have he9 := BS3.out.2.2.1
              have et := tickL_get (goK x l q) x j jl
              rw [et] at g0 g1 g2
              have g0' : wr.cell? ⟨bx, ox + j * 3, none⟩ = some (.int .i64 ((goK x l q)[j]?.getD (0, 0, 0)).1) := g0
              have g1' : wr.cell? ⟨bx, ox + j * 3 + 1, none⟩ = some (.int .i64 ((goK x l q)[j]?.getD (0, 0, 0)).2.1) := g1
              have g2' : wr.cell? ⟨bx, ox + j * 3 + 2, none⟩ = some (.int .i64 (leB ((goK x l q)[j]?.getD (0, 0, 0)) (inK (goK x l q) x j))) := g2
              clear g0 g1 g2 et
              have ES := Lib.hid (show sameK (goK x l q) x (j + 1) = (sameK (goK x l q) x j && decide (leB ((goK x l q)[j]?.getD (0, 0, 0)) (inK (goK x l q) x j) = ((goK x l q)[j]?.getD (0, 0, 0)).2.2)) from rfl)
              obtain ⟨sv, hsv⟩ : ∃ sv, sv = sameK (goK x l q) x j := ⟨_, rfl⟩
              obtain ⟨a, hha⟩ : ∃ a, a = ((goK x l q)[j]?.getD (0, 0, 0)).1 := ⟨_, rfl⟩
              obtain ⟨o, hho⟩ : ∃ o, o = ((goK x l q)[j]?.getD (0, 0, 0)).2.1 := ⟨_, rfl⟩
              obtain ⟨u, hhu⟩ : ∃ u, u = ((goK x l q)[j]?.getD (0, 0, 0)).2.2 := ⟨_, rfl⟩
              obtain ⟨v, hhv⟩ : ∃ v, v = leB ((goK x l q)[j]?.getD (0, 0, 0)) (inK (goK x l q) x j) := ⟨_, rfl⟩
              rw [← hsv, ← hhv, ← hhu] at ES
              rw [← hha] at g0' k0
              rw [← hho] at g1' k1
              rw [← hhu] at k2
              rw [← hhv] at g2'
              rw [← hsv]
              clear hsv hha hho hhu hhv
              have zw : by' < wr.heap.size := World.block_lt_of_cell? _ _ k0
              by_cases hs : sv = true
              · subst hs
                by_cases huv : v = u
                · subst huv
                  go_wp2_with fail
                  go_quiet (fail)
                  go_wp2_with fail
                  go_roundw
                  case rel => exact ⟨j + 1, by omega, by go_num, by rw [ES.out]; simp, N4.out.trans (by repeat (first | with_reducible exact New.refl _ | with_reducible assumption | refine New.drewN ?_ _ | refine New.drew ?_ | refine New.alloc ?_ _ | refine New.setCell ?_ (by first | omega | (simp; omega) | (simp; done)) _ | (refine New.trans ?_ (by assumption))))⟩
                  case measure => simp [intOf]; omega
                · go_wp2_with fail
                  go_quiet (fail)
                  go_wp2_with fail
                  go_roundw
                  case rel => exact ⟨j + 1, by omega, by go_num, by rw [ES.out]; simp [huv], N4.out.trans (by repeat (first | with_reducible exact New.refl _ | with_reducible assumption | refine New.drewN ?_ _ | refine New.drew ?_ | refine New.alloc ?_ _ | refine New.setCell ?_ (by first | omega | (simp; omega) | (simp; done)) _ | (refine New.trans ?_ (by assumption))))⟩
                  case measure => simp [intOf]; omega
              · have hsf : sv = false := bool_no hs
                subst hsf
                go_wp2_with fail
                go_quiet (fail)
                go_wp2_with fail
                go_roundw
                case rel => exact ⟨j + 1, by omega, by go_num, by rw [ES.out]; simp, N4.out.trans (by repeat (first | with_reducible exact New.refl _ | with_reducible assumption | refine New.drewN ?_ _ | refine New.drew ?_ | refine New.alloc ?_ _ | refine New.setCell ?_ (by first | omega | (simp; omega) | (simp; done)) _ | (refine New.trans ?_ (by assumption))))⟩
                case measure => simp [intOf]; omega
            · obtain rfl : j = on := by omega
              have EQ := Lib.hid (show sameK (goK x l q) x j = decide (tickL (goK x l q) x = goK x l q) by
                have e : j = (goK x l q).length := by rw [LK.out]; exact ON.out
                rw [e]
                by_cases hh : tickL (goK x l q) x = goK x l q
                · rw [decide_eq_true hh]; exact (sameK_full _ _).2 hh
                · rw [decide_eq_false hh]; exact bool_no fun t => hh ((sameK_full _ _).1 t))
              rw [EQ.out]
              by_cases hh : tickL (goK x l q) x = goK x l q
              · have RE := Lib.hid (WY.out.rest hh)
                rw [decide_eq_true hh]
                have NX2 := Lib.hid (show Basins wr oa j oc (goK x l q) by have := NX.out.new N4.out; rw [hh] at this; exact this)
                clear hh
                go_wp2_with fail
                go_roundw
                case rel => exact ⟨q, _, _, _, rfl, NX2.out, N3.out.trans N4.out, .inr ⟨rfl, RE.out⟩⟩
                case measure =>
                  show 0 < muL x (rowsAt wq (Value.slice ea en ec)) + 1
                  omega
              · obtain ⟨wy2, mu2⟩ := WY.out.succ HL.out x0 hh
                have W2 := Lib.hid (And.intro wy2 mu2); clear wy2 mu2
                rw [decide_eq_false hh]
                clear hh
                have NX2 := Lib.hid (show Basins wr oa j oc (goK x l (q + 1)) from NX.out.new N4.out)
                have RA2 := Lib.hid (rowsAt_eq NX2.out)
                go_wp2_with fail
                go_roundw
                case rel => exact ⟨q + 1, _, _, _, rfl, NX2.out, N3.out.trans N4.out, .inl ⟨rfl, W2.out.1⟩⟩
                case measure =>
                  have := W2.out.2
                  show muL x (rowsAt wr (Value.slice oa j oc)) + 1 < muL x (rowsAt wq (Value.slice ea en ec)) + 1
                  rw [RA.out, RA2.out]
                  omega
        · have HS := Lib.hid (show stM l x = hsTo (goK x l q) l.length by unfold stM; rw [if_pos FB.out, hr.eq])
          clear hr
          have HEN := Lib.hid BS.out.1
          have en6 : en ≤ 6 := by have := HEN.out; rw [LK.out] at this; have := HL.out.2.1; omega
          go_wp2_with fail
          go_loopw [12, 51] (fun vo iv wr => ∃ k : Nat, k ≤ en ∧ iv = .int .i64 k ∧ New wq wr ∧ wr.ownsRow wq.heap.size 3 1 vo k ((hsTo (goK x l q) k).map (Value.int .i64))) (fun _ iv _ => en - (intOf iv).toNat)
          case atStart => exact ⟨0, Nat.zero_le _, rfl, New.refl _, World.ownsRow_nil _ _ _ _⟩
          case round =>
            obtain ⟨k, hk, rfl, hnw, hro⟩ := hrel
            have NX := Lib.hid hnw; clear hnw
            have RO := Lib.hid hro; clear hro
            by_cases hlt : k < en
            · obtain ⟨bx, ox, rfl, g0, g1, g2⟩ := (BS.out.new NX.out).2.2.2.1 k hlt
              have zb := NX.out.size
              go_wp2_with (at_builtin; (refine wpList_append_lies _ (by rfl) (.tmp 55) (.tmp 58) 25 (by rfl) wq.heap.size 3 j0 (.int .i64 0) 1 8 Try.underlying25 hi hz0 hz1 hz2 rfl (by decide) _ k _ (by rfl) (ownsRow_new RO.out (by repeat (first | with_reducible exact New.refl _ | with_reducible assumption | refine New.drewN ?_ _ | refine New.drew ?_ | refine New.alloc ?_ _ | refine New.setCell ?_ (by first | omega | (simp; omega) | (simp; done)) _ | (refine New.trans ?_ (by assumption))))) _ _ _ [.int .i64 ((goK x l q)[k]?.getD (0, 0, 0)).2.2] (by rfl) (by rfl) (World.news_of_block (cs := #[.int .i64 ((goK x l q)[k]?.getD (0, 0, 0)).2.2]) (t := 3) (fr := (0, 0)) (heap_alloc_at (by simp))) (by simp [Value.oneCell']) (by omega) (by unfold maxLen; omega) (by omega) (by simp; omega) _ rfl ?_); intro g4 cap4 w4 ho hg hb' hlt'; have N4 := Lib.hid (New.grown (NX.out.trans (by repeat (first | with_reducible exact New.refl _ | with_reducible assumption | refine New.drewN ?_ _ | refine New.drew ?_ | refine New.alloc ?_ _ | refine New.setCell ?_ (by first | omega | (simp; omega) | (simp; done)) _ | (refine New.trans ?_ (by assumption))))) (ownsRow_new RO.out (by repeat (first | with_reducible exact New.refl _ | with_reducible assumption | refine New.drewN ?_ _ | refine New.drew ?_ | refine New.alloc ?_ _ | refine New.setCell ?_ (by first | omega | (simp; omega) | (simp; done)) _ | (refine New.trans ?_ (by assumption))))) (Nat.le_refl _) hg); have RO4 := Lib.hid ho; clear ho hg hb' hlt')
              go_roundw
              case rel =>
                refine ⟨k + 1, by omega, by go_num, N4.out, ?_⟩
                rw [hsTo_succ, List.map_append]
                exact RO4.out
              case measure => simp [intOf]; omega
            · obtain rfl : k = en := by omega
              go_wp2_with fail
              obtain ⟨oa, oc, e1, o1⟩ := Own.of_row RO.out
              subst e1
              go_ret2
              rw [FB.out, HS.out]
              refine ⟨_, _, _, rfl, ?_, NW.out.trans NX.out⟩
              have e : k = l.length := by have := HEN.out; rw [LK.out] at this; exact this
              rw [← e]
              exact o1.mono NW.out.size (Nat.le_refl _)
    · have h2f := bool_no h2
      have FB := Lib.hid (show frB l x = false ∧ stM l x = [] by
        have e : frB l x = false := by unfold frB; rw [h2f]; simp
        exact ⟨e, by unfold stM; rw [e]; rfl⟩)
      go_enter Try.func41, Try.ntmps41
      go_wp2_with fail
      refine (weRow_any _ _ _ _ l HA.out).mono ?_
      rintro e w1 ⟨rfl, n1⟩
      go_wp2_with fail
      refine (l1In_any _ _ _ _).mono ?_
      rintro e w9 ⟨rfl, rfl⟩
      go_wp2_with fail
      go_ret2
      rw [FB.out.1, FB.out.2]
      exact ⟨_, _, _, rfl, Own.nil _ _ _, n1⟩
  · have hf := bool_no h
    have FB := Lib.hid (show frB l x = false ∧ stM l x = [] by
      have e : frB l x = false := by unfold frB; rw [hf]; rfl
      exact ⟨e, by unfold stM; rw [e]; rfl⟩)
    go_enter Try.func41, Try.ntmps41
    go_wp2_with fail
    refine (weRow_any _ _ _ _ l HA.out).mono ?_
    rintro e w1 ⟨rfl, n1⟩
    go_wp2_with fail
    go_ret2
    rw [FB.out.1, FB.out.2]
    exact ⟨_, _, _, rfl, Own.nil _ _ _, n1⟩

set_option maxRecDepth 100000 in
set_option maxHeartbeats 2000000 in
theorem iSteadyHeld_any (w : World) (aa : Option Addr) (n ca : Nat) (l : List (Int × Int × Int)) (x : Int) (ha : Basins w aa n ca l) :
    Calls Try.prog 40 #[.slice aa n ca, .int .i64 x] w fun e w' => ∃ oa on oc, e = .returned (.tuple #[.slice oa on oc, .bool (frB l x)]) ∧ Own w' w.heap.size w'.heap.size oa on oc (stM l x) ∧ New w w' := by
  have HN := Lib.hid ha.1
  have HA := Lib.hid ha; clear ha
  by_cases h : rowB l = true
  · by_cases h2 : inB 0 1000 x = true
    · have HL := Lib.hid (rowB_iff.1 h)
      obtain ⟨x0, x1⟩ := inB_iff.1 h2
      have FB := Lib.hid (show frB l x = true by unfold frB; rw [h, h2]; rfl)
      have r1 : 1 ≤ n := by have := HL.out.1; have := HN.out; omega
      have r6 : n ≤ 6 := by have := HL.out.2.1; have := HN.out; omega
      have hmk := run_make_row' (P := Try.prog) 25 3 (.int .i64 0) 8 Try.underlying25 Try.infoInt rfl .i64 .i64 n (by omega) (by omega)
      go_enter Try.func40, Try.ntmps40
      go_wp2_with fail
      refine (iIsRow_any _ _ _ _ l HA.out).mono ?_
      rintro e w1 ⟨rfl, n1⟩
      have N1 := Lib.hid n1; clear n1
      go_wp2_with fail
      refine (isFlow_any _ _).mono ?_
      rintro e w9 ⟨rfl, rfl⟩
      go_wp2_with fail
      refine (stateOf_any _ _ _ _ l (HA.out.new N1.out) r1 r6).mono ?_
      rintro e w2 ⟨rfl, n2⟩
      have N2 := Lib.hid (N1.out.trans n2); clear n2
      go_wp2_with fail
      refine (atRest_any _ l x HL.out x0 x1).mono ?_
      rintro e w3 ⟨N, hr, hN, rfl, n3⟩
      have N3 := Lib.hid (N2.out.trans n3); clear n3
      have HS := Lib.hid (show stM l x = hsTo (goK x l N) n by unfold stM; rw [if_pos FB.out, hr.eq, HN.out])
      have LK := Lib.hid (goK_length x l N)
      clear hr h h2
      obtain ⟨f0, hf0⟩ : ∃ f0, f0 = basA (goK x l N) := ⟨_, rfl⟩
      obtain ⟨m, hm⟩ : ∃ m : Int, m = ((goK x l N).length : Int) := ⟨_, rfl⟩
      have er : rowV (goK x l N) = Value.agg (stC f0 m).toArray := by show Value.agg (stC (basA (goK x l N)) ((goK x l N).length : Int)).toArray = _; rw [hf0, hm]
      rw [er]
      have F0 := Lib.hid hf0
      clear er hf0 hm
      go_upto_region 4 with ((with_reducible (show wpList _ _ _ ({ dst := none, op := .store _ _ _, type := _, pos := _, after := _, guard := _ } :: _) _ _)); go_must (refine wpList_store_blk rfl 72 (.tmp 6) (.tmp 23) rfl w3.heap.size 0 (stC (fun _ => (0, 0, 0)) 0) (stC f0 m) 72 rfl rfl (heap_alloc_new _ _) (by simp [stC_length]) (by kernel_rfl) (stC_one _ _) ?_); intro w4 hb_ hc_; have B4 := Lib.hid (WB.eqv hb_.out (splice_zero _ _ rfl)); have N4 := Lib.hid (Chg.new (w0 := w) (N3.out.trans (by repeat (first | with_reducible exact New.refl _ | with_reducible assumption | refine New.drewN ?_ _ | refine New.drew ?_ | refine New.alloc ?_ _ | refine New.setCell ?_ (by first | omega | (simp; omega) | (simp; done)) _ | (refine New.trans ?_ (by assumption))))) hc_ (fun i hi => by have := N3.out.size; omega)); clear hb_ hc_)
      have zB := Lib.hid B4.out.lt
      go_wp2_with fail
      go_loopw [30] (fun t wr => ∃ (k : Nat) (f : Nat → Value), k ≤ n ∧ t = .int .i64 k ∧ wr.rowIs w4.heap.size 3 n f ∧ (∀ j, j < k → f j = .int .i64 (f0 j).2.2) ∧ (∀ j, ∃ z, f j = .int .i64 z) ∧ WB wr w3.heap.size (stC f0 m) 72 ∧ New w4 wr) (fun t _ => n - (intOf t).toNat)
      case atStart => exact ⟨0, _, Nat.zero_le _, rfl, World.rowIs_made _ _ _ _, fun j hj => absurd hj (by omega), fun _ => ⟨0, rfl⟩, B4.out.new (by repeat (first | with_reducible exact New.refl _ | with_reducible assumption | refine New.drewN ?_ _ | refine New.drew ?_ | refine New.alloc ?_ _ | refine New.setCell ?_ (by first | omega | (simp; omega) | (simp; done)) _ | (refine New.trans ?_ (by assumption)))), (New.refl w4).alloc _⟩
      case round =>
        obtain ⟨k, f, hk, rfl, hrow, hf, hz, hcb, hnew⟩ := hrel
        have RW := Lib.hid hrow; clear hrow
        have HF := Lib.hid hf; clear hf
        have HZ := Lib.hid hz; clear hz
        have CB := Lib.hid hcb; clear hcb
        have NW := Lib.hid hnew; clear hnew
        by_cases hlt : k < n
        · obtain ⟨c0, c1, c2⟩ := stC_get f0 m k (by omega)
          have q2 : wr.cell? ⟨w3.heap.size, k * 3 + 2, none⟩ = some (.int .i64 (f0 k).2.2) := CB.out.cell c2
          clear c0 c1 c2
          obtain ⟨z, ez⟩ := HZ.out k
          have hd : wr.cell? ⟨w4.heap.size, k, none⟩ = some (.int .i64 z) := by rw [RW.out.cell hlt, ez]
          have hfz := RW.out.frozen k
          have k6 : k < 6 := by omega
          clear ez
          go_wp2_with fail
          go_roundw
          case rel =>
            refine ⟨k + 1, _, by omega, by go_num, RW.out.set k _, fun j hj => ?_, fun j => ?_, CB.out.apart (by have := zB.out; simp; omega) _, NW.out.setCell (Nat.le_refl _) _⟩
            · by_cases e : j = k
              · simp [e]
              · simp only [e, if_false]; exact HF.out j (by omega)
            · by_cases e : j = k
              · simp [e]
              · simp only [e, if_false]; exact HZ.out j
          case measure => simp [intOf]; omega
        · obtain rfl : k = n := by omega
          go_wp2_with fail
          go_ret2
          rw [FB.out, HS.out]
          refine ⟨_, _, _, rfl, ⟨by rw [hsTo_length], Nat.le_refl _, by omega, .inr ⟨w4.heap.size, f, rfl, N4.out.size, RW.out.lt, RW.out, fun j hj => ?_⟩⟩, N4.out.trans NW.out⟩
          rw [HF.out j hj, hsTo_get _ _ _ hj, F0.out]
          rfl
    · have h2f := bool_no h2
      have FB := Lib.hid (show frB l x = false ∧ stM l x = [] by
        have e : frB l x = false := by unfold frB; rw [h2f]; simp
        exact ⟨e, by unfold stM; rw [e]; rfl⟩)
      go_enter Try.func40, Try.ntmps40
      go_wp2_with fail
      refine (iIsRow_any _ _ _ _ l HA.out).mono ?_
      rintro e w1 ⟨rfl, n1⟩
      go_wp2_with fail
      refine (isFlow_any _ _).mono ?_
      rintro e w9 ⟨rfl, rfl⟩
      go_wp2_with fail
      go_ret2
      rw [FB.out.1, FB.out.2]
      exact ⟨_, _, _, rfl, Own.nil _ _ _, n1⟩
  · have hf := bool_no h
    have FB := Lib.hid (show frB l x = false ∧ stM l x = [] by
      have e : frB l x = false := by unfold frB; rw [hf]; rfl
      exact ⟨e, by unfold stM; rw [e]; rfl⟩)
    go_enter Try.func40, Try.ntmps40
    go_wp2_with fail
    refine (iIsRow_any _ _ _ _ l HA.out).mono ?_
    rintro e w1 ⟨rfl, n1⟩
    go_wp2_with fail
    go_ret2
    rw [FB.out.1, FB.out.2]
    exact ⟨_, _, _, rfl, Own.nil _ _ _, n1⟩
end Go.Proofs.Ytchnnbkaiagpgaa
