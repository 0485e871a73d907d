/- WetTanks: the model's and the program's. -/
import Derived.Test.YtkhniokfpmhonaaWa
namespace Go.Proofs.Ytkhniokfpmhonaa
open Go.RowKit Go.IntWalk

theorem wpList_value_as {P : Program} {ops : Array Oper} {rest : List Oper} {o : Oper} {a : Act} {w : World} {Q : Exit → Act → World → Prop} (hgd : o.guard = none) (v : Value) (hr : (execOp a.eval o).run P w = .ok (.value v) w)
    (h : wpList P ops Q rest (a.put o.dst v) w) : wpList P ops Q (o :: rest) a w :=
  wpList_plain hgd fun _ hK => by
    unfold Oper.wp
    simp only [hr]
    exact hK _ _ h

noncomputable def wetK (T : List Tk) (k : Nat) : List Int := ((List.range k).filter fun j => decide (0 < (upC T (T[j]?.getD (0, 0, 0))).1)).map fun (j : Nat) => (j : Int)
theorem wetK_succ (T : List Tk) (k : Nat) : wetK T (k + 1) = if 0 < (upC T (T[k]?.getD (0, 0, 0))).1 then wetK T k ++ [(k : Int)] else wetK T k := by
  unfold wetK
  rw [List.range_succ, List.filter_append]
  by_cases h : 0 < (upC T (T[k]?.getD (0, 0, 0))).1
  · rw [if_pos h]; simp [h]
  · rw [if_neg h]; simp [h]
theorem wetK_len (T : List Tk) (k : Nat) : (wetK T k).length ≤ k := by
  unfold wetK
  rw [List.length_map]
  have := List.length_filter_le (fun j => decide (0 < (upC T (T[j]?.getD (0, 0, 0))).1)) (List.range k)
  rw [List.length_range] at this
  exact this
noncomputable def wetM (T : List Tk) : List Int := if tksB T then wetK T T.length else []
theorem wetM_yes {T : List Tk} (h : tksB T = true) : wetM T = wetK T T.length := by unfold wetM; rw [if_pos h]
theorem wetM_no {T : List Tk} (h : tksB T = false) : wetM T = [] := by unfold wetM; rw [h]; rfl
theorem wetM_small (T : List Tk) : (wetM T).length ≤ 1048576 := by
  unfold wetM
  split
  · rename_i h
    have := (tksB_iff.1 h).l6
    have := wetK_len T T.length
    omega
  · simp

set_option maxRecDepth 100000 in
theorem sWetTanks_any (w : World) (aa : Option Addr) (n ca : Nat) (T : List Tk) (ha : Tanks w aa n ca T) :
    Calls Try.prog 23 #[.slice aa n ca] w fun e w' => ∃ oa on oc, e = .returned (.tuple #[.slice oa on oc, .bool (tksB T)]) ∧ Own w' w.heap.size w'.heap.size oa on oc (wetM T) ∧ New w w' := by
  have HN := Lib.hid ha.1
  have HA := Lib.hid ha; clear ha
  by_cases h : tksB T = true
  · have HC := Lib.hid (wetM_yes h)
    have HB := Lib.hid h
    have HT := Lib.hid (tksB_iff.1 h); clear h
    have hn : n ≤ 6 := by have := HN.out; have := HT.out.l6; omega
    obtain ⟨i0, hi, hz0, hz1, hz2⟩ := info_parts Try.infoInt
    have HL := Lib.hid (com_lvbd HT.out)
    go_enter Try.func23, Try.ntmps23
    go_wp2_with fail
    refine (leTanks_any _ _ _ _ T HA.out).mono ?_
    rintro e w1 ⟨rfl, n1⟩
    rw [HB.out]
    have N1 := Lib.hid n1; clear n1
    go_wp2_with fail
    refine (leCommon_any _ _ _ _ T (HA.out.new N1.out) HT.out).mono ?_
    rintro e w2 ⟨rfl, n2⟩
    have N2 := Lib.hid (N1.out.trans n2); clear n2
    obtain ⟨p1, hp1⟩ : ∃ p, p = (comR T).1 := ⟨_, rfl⟩
    obtain ⟨p2, hp2⟩ : ∃ p, p = (comR T).2 := ⟨_, rfl⟩
    have EC := Lib.hid (show comR T = (p1, p2) by rw [hp1, hp2])
    rw [EC.out]
    dsimp only [ratV]
    rw [EC.out] at HL
    clear hp1 hp2
    go_upto_region 4 with fail
    obtain ⟨w3, hw3⟩ : ∃ v, v = w2.alloc (.cells #[.int .i64 p1, .int .i64 p2] 25) := ⟨_, rfl⟩
    rw [← hw3]
    have b0 := Lib.hid (show w3.cell? ⟨w2.heap.size, 0, none⟩ = some (.int .i64 p1) by rw [hw3]; simp [go_sem])
    have b1 := Lib.hid (show w3.cell? ⟨w2.heap.size, 1, none⟩ = some (.int .i64 p2) by rw [hw3]; simp [go_sem])
    have N3 := Lib.hid (show New w w3 by have := N2.out; rw [hw3]; (repeat (first | with_reducible exact New.refl _ | with_reducible assumption | refine New.drewN ?_ _ | refine New.drew ?_ | refine New.alloc ?_ _ | refine New.setCell ?_ (by first | omega | (simp; omega) | (simp; done)) _ | (refine New.trans ?_ (by assumption)))))
    clear hw3
    go_wp2
    go_loopw [5, 15] (fun vo i wr => ∃ k m : Nat, k ≤ n ∧ m ≤ k ∧ i = .int .i64 k ∧ New w3 wr ∧ wr.ownsRow w3.heap.size 3 1 vo m ((wetK T k).map (Value.int .i64))) (fun _ i _ => n - (intOf i).toNat)
    case atStart => exact ⟨0, 0, Nat.zero_le _, Nat.le_refl _, rfl, New.refl _, World.ownsRow_nil _ _ _ _⟩
    case round =>
      obtain ⟨k, m, hk, hmk, rfl, hnw, hro⟩ := hrel
      have zb := hnw.size
      have NW := Lib.hid hnw; clear hnw
      have RO := Lib.hid hro; clear hro
      by_cases hlt : k < n
      · have KC := Lib.hid (show k < T.length by have := HN.out; omega)
        obtain ⟨b, o, rfl, g0, g1, g2⟩ := (HA.out.new (N3.out.trans NW.out)).2.2.2.1 k hlt
        have c0 := NW.out.cell b0.out
        have c1 := NW.out.cell b1.out
        have hbb := World.block_lt_of_cell? _ _ c0
        obtain ⟨a, ea⟩ : ∃ a, a = (T[k]?.getD (0, 0, 0)).1 := ⟨_, rfl⟩
        obtain ⟨f', ef⟩ : ∃ f, f = (T[k]?.getD (0, 0, 0)).2.1 := ⟨_, rfl⟩
        obtain ⟨u, eu⟩ : ∃ u, u = (T[k]?.getD (0, 0, 0)).2.2 := ⟨_, rfl⟩
        rw [← ea] at g0
        rw [← ef] at g1
        rw [← eu] at g2
        have ET := Lib.hid (show T[k]?.getD (0, 0, 0) = (a, f', u) by rw [ea, ef, eu]); clear ea ef eu
        have KO := Lib.hid (show TkOk (a, f', u) by rw [← ET.out]; exact HT.out.all _ (mem_get KC.out))
        have WS := Lib.hid (wetK_succ T k)
        have EU := Lib.hid (show upC T (T[k]?.getD (0, 0, 0)) = upR p1 p2 (a, f', u) by rw [ET.out]; unfold upC; rw [EC.out])
        go_wp2_with fail
        refine (leUp_any _ _ _ _ p1 p2 KO.out HL.out).mono ?_
        rintro e w4 ⟨rfl, n4⟩
        obtain ⟨xx, hxx⟩ : ∃ x, x = upR p1 p2 (a, f', u) := ⟨_, rfl⟩
        rw [← hxx]
        have EX := Lib.hid (show upC T (T[k]?.getD (0, 0, 0)) = xx by rw [EU.out, hxx])
        clear hxx EU
        obtain ⟨x1, x2⟩ := xx
        dsimp only [ratV]
        have N4 := Lib.hid (show New wr w4 from New.trans (by repeat (first | with_reducible exact New.refl _ | with_reducible assumption | refine New.drewN ?_ _ | refine New.drew ?_ | refine New.alloc ?_ _ | refine New.setCell ?_ (by first | omega | (simp; omega) | (simp; done)) _ | (refine New.trans ?_ (by assumption)))) n4); clear n4
        have z4 := N4.out.size
        by_cases hx : 0 < x1
        · go_wp2_with (first | ((with_reducible (show wpList _ _ _ ({ dst := _, op := .field _ _ _, type := _, pos := _, after := _, guard := _ } :: _) _ _)); go_must (refine wpList_value_as rfl (.int .i64 x1) (by kernel_rfl) ?_)) | (at_builtin; go_loud (refine wpList_append_lies _ (by rfl) (.tmp 25) (.tmp 27) 39 (by rfl) w3.heap.size 3 i0 (.int .i64 0) 1 8 Try.underlying39 hi hz0 hz1 hz2 rfl (by decide) _ m _ (by rfl) (ownsRow_new RO.out (New.trans N4.out (by repeat (first | with_reducible exact New.refl _ | with_reducible assumption | refine New.drewN ?_ _ | refine New.drew ?_ | refine New.alloc ?_ _ | refine New.setCell ?_ (by first | omega | (simp; omega) | (simp; done)) _ | (refine New.trans ?_ (by assumption)))))) _ _ _ [.int .i64 k] (by rfl) (by rfl) (World.news_of_block (cs := #[.int .i64 k]) (t := 3) (fr := (0, 0)) (heap_alloc_at (by simp))) (by simp [Value.oneCell']) (by omega) (by unfold maxLen; omega) (by omega) (by simp; omega) _ rfl ?_; intro g cap w5 ho hg hb' hlt'; have N5 := Lib.hid (New.grown (w0 := w3) (w := _) ((NW.out.trans N4.out).trans (by repeat (first | with_reducible exact New.refl _ | with_reducible assumption | refine New.drewN ?_ _ | refine New.drew ?_ | refine New.alloc ?_ _ | refine New.setCell ?_ (by first | omega | (simp; omega) | (simp; done)) _ | (refine New.trans ?_ (by assumption))))) (ownsRow_new RO.out (New.trans N4.out (by repeat (first | with_reducible exact New.refl _ | with_reducible assumption | refine New.drewN ?_ _ | refine New.drew ?_ | refine New.alloc ?_ _ | refine New.setCell ?_ (by first | omega | (simp; omega) | (simp; done)) _ | (refine New.trans ?_ (by assumption)))))) (by omega) hg); have RO5 := Lib.hid ho; clear ho hg hb' hlt')))
          go_roundw
          case rel =>
            refine ⟨k + 1, m + 1, by omega, by omega, by go_num, N5.out, ?_⟩
            rw [WS.out, EX.out, if_pos hx, List.map_append]
            exact RO5.out
          case measure => simp [intOf]; omega
        · go_wp2_with ((with_reducible (show wpList _ _ _ ({ dst := _, op := .field _ _ _, type := _, pos := _, after := _, guard := _ } :: _) _ _)); go_must (refine wpList_value_as rfl (.int .i64 x1) (by kernel_rfl) ?_))
          go_roundw
          case rel =>
            refine ⟨k + 1, m, by omega, by omega, by go_num, NW.out.trans N4.out, ?_⟩
            rw [WS.out, EX.out, if_neg hx]
            exact ownsRow_new RO.out N4.out
          case measure => simp [intOf]; omega
      · obtain rfl : k = n := by omega
        go_wp2
        obtain ⟨oa, oc, e1, o1⟩ := Own.of_row RO.out
        subst e1
        go_ret2
        rw [HC.out, HB.out, ← HN.out]
        exact ⟨_, _, _, rfl, o1.mono (by have := N3.out.size; omega) (Nat.le_refl _), N3.out.trans NW.out⟩
  · have hf := bool_no h
    have HC := Lib.hid (wetM_no hf)
    have HB := Lib.hid hf; clear h hf
    go_enter Try.func23, Try.ntmps23
    go_wp2_with fail
    refine (leTanks_any _ _ _ _ T HA.out).mono ?_
    rintro e w1 ⟨rfl, n1⟩
    rw [HB.out]
    go_wp2
    go_ret2
    rw [HC.out, HB.out]
    exact ⟨_, _, _, rfl, Own.nil _ _ _, n1⟩

set_option maxRecDepth 100000 in
theorem iWetTanks_any (w : World) (aa : Option Addr) (n ca : Nat) (T : List Tk) (ha : Tanks w aa n ca T) :
    Calls Try.prog 24 #[.slice aa n ca] w fun e w' => ∃ oa on oc, e = .returned (.tuple #[.slice oa on oc, .bool (tksB T)]) ∧ Own w' w.heap.size w'.heap.size oa on oc (wetM T) ∧ New w w' := by
  have HA := Lib.hid ha; clear ha
  obtain ⟨i0, hi, hz0, hz1, hz2⟩ := info_parts Try.infoInt
  have HW := Lib.hid (show wetM T = wetK T (waM T).length by
    by_cases h : tksB T = true
    · rw [wetM_yes h, waM_yes h, waL_length]
    · rw [wetM_no (bool_no h), waM_no (bool_no h)]; rfl)
  have HS := Lib.hid (show (waM T).length ≤ 6 by
    by_cases h : tksB T = true
    · rw [waM_yes h, waL_length]; exact (tksB_iff.1 h).l6
    · rw [waM_no (bool_no h)]; simp)
  have HG := Lib.hid (show ∀ k, k < (waM T).length → (waM T)[k]?.getD (0, 0) = upC T (T[k]?.getD (0, 0, 0)) by
    intro k hk
    by_cases h : tksB T = true
    · rw [waM_yes h] at hk ⊢; exact waL_get (by rw [← waL_length]; exact hk)
    · rw [waM_no (bool_no h)] at hk; simp at hk)
  obtain ⟨bb, hbb⟩ : ∃ b, b = tksB T := ⟨_, rfl⟩
  rw [← hbb]
  have EB := Lib.hid hbb; clear hbb
  go_enter Try.func24, Try.ntmps24
  go_wp2_with fail
  refine (iWaterAfter_any _ _ _ _ T HA.out).mono ?_
  rintro e w1 ⟨oa, n, oc, rfl, o1, n1⟩
  rw [← EB.out]
  have N1 := Lib.hid n1; clear n1
  have OR := Lib.hid o1.reads; clear o1
  have HN := Lib.hid OR.out.1
  have hn : n ≤ 6 := by have := HN.out; have := HS.out; omega
  go_wp2
  go_loopw [6, 16] (fun vo i wr => ∃ k m : Nat, k ≤ n ∧ m ≤ k ∧ i = .int .i64 k ∧ New w1 wr ∧ wr.ownsRow w1.heap.size 3 1 vo m ((wetK T k).map (Value.int .i64))) (fun _ i _ => n - (intOf i).toNat)
  case atStart => exact ⟨0, 0, Nat.zero_le _, Nat.le_refl _, rfl, New.refl _, World.ownsRow_nil _ _ _ _⟩
  case round =>
    obtain ⟨k, m, hk, hmk, rfl, hnw, hro⟩ := hrel
    have zb := hnw.size
    have NW := Lib.hid hnw; clear hnw
    have RO := Lib.hid hro; clear hro
    by_cases hlt : k < n
    · obtain ⟨b, o, rfl, g0, g1⟩ := (OR.out.new NW.out).2.2.2.1 k hlt
      have WS := Lib.hid (wetK_succ T k)
      have EG := HG.out k (by have := HN.out; omega)
      rw [EG] at g0 g1
      clear EG
      obtain ⟨x1, hx1⟩ : ∃ x, x = (upC T (T[k]?.getD (0, 0, 0))).1 := ⟨_, rfl⟩
      obtain ⟨x2, hx2⟩ : ∃ x, x = (upC T (T[k]?.getD (0, 0, 0))).2 := ⟨_, rfl⟩
      rw [← hx1] at g0 WS
      rw [← hx2] at g1
      clear hx1 hx2
      by_cases hx : 0 < x1
      · go_wp2_with (at_builtin; go_loud (refine wpList_append_lies _ (by rfl) (.tmp 24) (.tmp 26) 39 (by rfl) w1.heap.size 3 i0 (.int .i64 0) 1 8 Try.underlying39 hi hz0 hz1 hz2 rfl (by decide) _ m _ (by rfl) (ownsRow_new RO.out (by repeat (first | with_reducible exact New.refl _ | with_reducible assumption | refine New.drewN ?_ _ | refine New.drew ?_ | refine New.alloc ?_ _ | refine New.setCell ?_ (by first | omega | (simp; omega) | (simp; done)) _ | (refine New.trans ?_ (by assumption))))) _ _ _ [.int .i64 k] (by rfl) (by rfl) (World.news_of_block (cs := #[.int .i64 k]) (t := 3) (fr := (0, 0)) (heap_alloc_at (by simp))) (by simp [Value.oneCell']) (by omega) (by unfold maxLen; omega) (by omega) (by simp; omega) _ rfl ?_; intro g cap w5 ho hg hb' hlt'; have N5 := Lib.hid (New.grown (w0 := w1) (w := _) (NW.out.trans (by repeat (first | with_reducible exact New.refl _ | with_reducible assumption | refine New.drewN ?_ _ | refine New.drew ?_ | refine New.alloc ?_ _ | refine New.setCell ?_ (by first | omega | (simp; omega) | (simp; done)) _ | (refine New.trans ?_ (by assumption))))) (ownsRow_new RO.out (by repeat (first | with_reducible exact New.refl _ | with_reducible assumption | refine New.drewN ?_ _ | refine New.drew ?_ | refine New.alloc ?_ _ | refine New.setCell ?_ (by first | omega | (simp; omega) | (simp; done)) _ | (refine New.trans ?_ (by assumption))))) (by omega) hg); have RO5 := Lib.hid ho; clear ho hg hb' hlt'))
        go_roundw
        case rel =>
          refine ⟨k + 1, m + 1, by omega, by omega, by go_num, N5.out, ?_⟩
          rw [WS.out, if_pos hx, List.map_append]
          exact RO5.out
        case measure => simp [intOf]; omega
      · go_wp2
        go_roundw
        case rel =>
          refine ⟨k + 1, m, by omega, by omega, by go_num, New.trans NW.out (by repeat (first | with_reducible exact New.refl _ | with_reducible assumption | refine New.drewN ?_ _ | refine New.drew ?_ | refine New.alloc ?_ _ | refine New.setCell ?_ (by first | omega | (simp; omega) | (simp; done)) _ | (refine New.trans ?_ (by assumption)))), ?_⟩
          rw [WS.out, if_neg hx]
          exact ownsRow_new RO.out (by repeat (first | with_reducible exact New.refl _ | with_reducible assumption | refine New.drewN ?_ _ | refine New.drew ?_ | refine New.alloc ?_ _ | refine New.setCell ?_ (by first | omega | (simp; omega) | (simp; done)) _ | (refine New.trans ?_ (by assumption))))
        case measure => simp [intOf]; omega
    · obtain rfl : k = n := by omega
      go_wp2
      obtain ⟨oa, oc, e1, o1⟩ := Own.of_row RO.out
      subst e1
      go_ret2
      rw [HW.out, ← HN.out]
      exact ⟨_, _, _, rfl, o1.mono N1.out.size (Nat.le_refl _), N1.out.trans NW.out⟩
end Go.Proofs.Ytkhniokfpmhonaa
