/- WaterAfter: the model's and the program's. -/
import Derived.Test.YtkhniokfpmhonaaLvF
import Derived.Test.YtkhniokfpmhonaaRowRatio
namespace Go.Proofs.Ytkhniokfpmhonaa
open Go.RowKit Go.IntWalk

theorem com_lvbd {T : List Tk} (h : TksOk T) : LvBd (comR T) := by
  have := com_bd h
  exact ⟨by omega, by omega, by omega, by omega⟩
noncomputable def upC (T : List Tk) (t : Tk) : Int × Int := upR (comR T).1 (comR T).2 t
noncomputable def waL (T : List Tk) : List (Int × Int) := T.map (upC T)
noncomputable def waM (T : List Tk) : List (Int × Int) := if tksB T then waL T else []
theorem waM_yes {T : List Tk} (h : tksB T = true) : waM T = waL T := by unfold waM; rw [if_pos h]
theorem waM_no {T : List Tk} (h : tksB T = false) : waM T = [] := by unfold waM; rw [h]; rfl
theorem waM_small (T : List Tk) : (waM T).length ≤ 1048576 := by
  unfold waM
  split
  · rename_i h
    have := (tksB_iff.1 h).l6
    unfold waL; rw [List.length_map]; omega
  · simp
theorem waL_length (T : List Tk) : (waL T).length = T.length := by unfold waL; rw [List.length_map]
theorem waL_get {T : List Tk} {k : Nat} (h : k < T.length) : (waL T)[k]?.getD (0, 0) = upC T (T[k]?.getD (0, 0, 0)) := by
  unfold waL
  rw [List.getElem?_map, List.getElem?_eq_getElem h]; rfl
theorem waL_take {T : List Tk} {k : Nat} (h : k < T.length) : (waL T).take (k + 1) = (waL T).take k ++ [upC T (T[k]?.getD (0, 0, 0))] := by
  rw [List.take_add_one, ← waL_get h, List.getElem?_eq_getElem (show k < (waL T).length by rw [waL_length]; exact h)]
  rfl

set_option maxRecDepth 100000 in
theorem sWaterAfter_any (w : World) (aa : Option Addr) (n ca : Nat) (T : List Tk) (ha : Tanks w aa n ca T) :
    Calls Try.prog 17 #[.slice aa n ca] w fun e w' => ∃ oa on oc, e = .returned (.tuple #[.slice oa on oc, .bool (tksB T)]) ∧ OwnRatio w' w.heap.size w'.heap.size oa on oc (waM T) ∧ New w w' := by
  have HN := Lib.hid ha.1
  have HA := Lib.hid ha; clear ha
  by_cases h : tksB T = true
  · have HC := Lib.hid (waM_yes h)
    have HB := Lib.hid h
    have HT := Lib.hid (tksB_iff.1 h); clear h
    have hn : n ≤ 6 := by have := HN.out; have := HT.out.l6; omega
    obtain ⟨i1, hj, hy0, hy1, hy2⟩ := info_parts Try.infoRowRatio
    have HL := Lib.hid (com_lvbd HT.out)
    go_enter Try.func17, Try.ntmps17
    go_wp2_with fail
    refine (leTanks_any _ _ _ _ T HA.out).mono ?_
    rintro e w1 ⟨rfl, n1⟩
    rw [HB.out]
    have N1 := Lib.hid n1; clear n1
    go_wp2_with fail
    refine (leCommon_any _ _ _ _ T (HA.out.new N1.out) HT.out).mono ?_
    rintro e w2 ⟨rfl, n2⟩
    have N2 := Lib.hid (N1.out.trans n2); clear n2
    obtain ⟨p1, hp1⟩ : ∃ p, p = (comR T).1 := ⟨_, rfl⟩
    obtain ⟨p2, hp2⟩ : ∃ p, p = (comR T).2 := ⟨_, rfl⟩
    have EC := Lib.hid (show comR T = (p1, p2) by rw [hp1, hp2])
    rw [EC.out]
    rw [EC.out] at HL
    clear hp1 hp2
    go_upto_region 4 with fail
    obtain ⟨w3, hw3⟩ : ∃ v, v = w2.alloc (.cells #[.int .i64 p1, .int .i64 p2] 25) := ⟨_, rfl⟩
    rw [← hw3]
    have b0 := Lib.hid (show w3.cell? ⟨w2.heap.size, 0, none⟩ = some (.int .i64 p1) by rw [hw3]; simp [go_sem])
    have b1 := Lib.hid (show w3.cell? ⟨w2.heap.size, 1, none⟩ = some (.int .i64 p2) by rw [hw3]; simp [go_sem])
    have N3 := Lib.hid (show New w w3 by have := N2.out; rw [hw3]; (repeat (first | with_reducible exact New.refl _ | with_reducible assumption | refine New.drewN ?_ _ | refine New.drew ?_ | refine New.alloc ?_ _ | refine New.setCell ?_ (by first | omega | (simp; omega) | (simp; done)) _ | (refine New.trans ?_ (by assumption)))))
    clear hw3
    go_wp2
    go_loopw [5, 15] (fun vo i wr => ∃ k : Nat, k ≤ n ∧ i = .int .i64 k ∧ New w3 wr ∧ wr.ownsRow w3.heap.size 25 2 vo k (flatRatio ((waL T).take k))) (fun _ i _ => n - (intOf i).toNat)
    case atStart => exact ⟨0, Nat.zero_le _, rfl, New.refl _, World.ownsRow_nil _ _ _ _⟩
    case round =>
      obtain ⟨k, hk, rfl, hnw, hro⟩ := hrel
      have zb := hnw.size
      have NW := Lib.hid hnw; clear hnw
      have RO := Lib.hid hro; clear hro
      by_cases hlt : k < n
      · have KC := Lib.hid (show k < T.length by have := HN.out; omega)
        obtain ⟨b, o, rfl, g0, g1, g2⟩ := (HA.out.new (N3.out.trans NW.out)).2.2.2.1 k hlt
        have c0 := NW.out.cell b0.out
        have c1 := NW.out.cell b1.out
        have hbb := World.block_lt_of_cell? _ _ c0
        obtain ⟨a, ea⟩ : ∃ a, a = (T[k]?.getD (0, 0, 0)).1 := ⟨_, rfl⟩
        obtain ⟨f', ef⟩ : ∃ f, f = (T[k]?.getD (0, 0, 0)).2.1 := ⟨_, rfl⟩
        obtain ⟨u, eu⟩ : ∃ u, u = (T[k]?.getD (0, 0, 0)).2.2 := ⟨_, rfl⟩
        rw [← ea] at g0
        rw [← ef] at g1
        rw [← eu] at g2
        have ET := Lib.hid (show T[k]?.getD (0, 0, 0) = (a, f', u) by rw [ea, ef, eu]); clear ea ef eu
        have KO := Lib.hid (show TkOk (a, f', u) by rw [← ET.out]; exact HT.out.all _ (mem_get KC.out))
        go_wp2_with fail
        refine (leUp_any _ _ _ _ p1 p2 KO.out HL.out).mono ?_
        rintro e w4 ⟨rfl, n4⟩
        have EU := Lib.hid (show upC T (T[k]?.getD (0, 0, 0)) = upR p1 p2 (a, f', u) by rw [ET.out]; unfold upC; rw [EC.out])
        obtain ⟨xx, hxx⟩ : ∃ x, x = upR p1 p2 (a, f', u) := ⟨_, rfl⟩
        rw [← hxx]
        have EX := Lib.hid (show upC T (T[k]?.getD (0, 0, 0)) = xx by rw [EU.out, hxx])
        clear hxx EU
        obtain ⟨x1, x2⟩ := xx
        have N4 := Lib.hid (show New wr w4 from New.trans (by repeat (first | with_reducible exact New.refl _ | with_reducible assumption | refine New.drewN ?_ _ | refine New.drew ?_ | refine New.alloc ?_ _ | refine New.setCell ?_ (by first | omega | (simp; omega) | (simp; done)) _ | (refine New.trans ?_ (by assumption)))) n4); clear n4
        have z4 := N4.out.size
        go_wp2_with (at_builtin; go_loud (refine wpList_append_lies _ (by rfl) (.tmp 19) (.tmp 23) 33 (by rfl) w3.heap.size 25 i1 _ 2 16 Try.underlying33 hj hy0 hy1 hy2 rfl (by decide) _ k _ (by rfl) (ownsRow_new RO.out (New.trans N4.out (by repeat (first | with_reducible exact New.refl _ | with_reducible assumption | refine New.drewN ?_ _ | refine New.drew ?_ | refine New.alloc ?_ _ | refine New.setCell ?_ (by first | omega | (simp; omega) | (simp; done)) _ | (refine New.trans ?_ (by assumption)))))) _ _ _ [.int .i64 x1, .int .i64 x2] (by rfl) (by rfl) (World.news_of_block (cs := #[.int .i64 x1, .int .i64 x2]) (t := 25) (fr := (0, 0)) (heap_alloc_at (by simp))) (by simp [Value.oneCell']) (by omega) (by unfold maxLen; omega) (by omega) (by simp; omega) _ rfl ?_; intro g cap w5 ho hg hb' hlt'; have N5 := Lib.hid (New.grown (w0 := w3) (w := _) ((NW.out.trans N4.out).trans (by repeat (first | with_reducible exact New.refl _ | with_reducible assumption | refine New.drewN ?_ _ | refine New.drew ?_ | refine New.alloc ?_ _ | refine New.setCell ?_ (by first | omega | (simp; omega) | (simp; done)) _ | (refine New.trans ?_ (by assumption))))) (ownsRow_new RO.out (New.trans N4.out (by repeat (first | with_reducible exact New.refl _ | with_reducible assumption | refine New.drewN ?_ _ | refine New.drew ?_ | refine New.alloc ?_ _ | refine New.setCell ?_ (by first | omega | (simp; omega) | (simp; done)) _ | (refine New.trans ?_ (by assumption)))))) (by omega) hg); have RO5 := Lib.hid ho; clear ho hg hb' hlt'))
        go_roundw
        case rel =>
          refine ⟨k + 1, by omega, by go_num, N5.out, ?_⟩
          rw [waL_take KC.out, EX.out, flatRatio_append]
          exact RO5.out
        case measure => simp [intOf]; omega
      · obtain rfl : k = n := by omega
        go_wp2
        have e0 : (waL T).take k = waL T := List.take_of_length_le (by rw [waL_length]; have := HN.out; omega)
        have r0 := RO.out
        rw [e0] at r0
        obtain ⟨oa, oc, e1, o1⟩ := OwnRatio.of_row r0
        subst e1
        go_ret2
        rw [HC.out, HB.out]
        exact ⟨_, _, _, rfl, o1.mono (by have := N3.out.size; omega) (Nat.le_refl _), N3.out.trans NW.out⟩
  · have hf := bool_no h
    have HC := Lib.hid (waM_no hf)
    have HB := Lib.hid hf; clear h hf
    go_enter Try.func17, Try.ntmps17
    go_wp2_with fail
    refine (leTanks_any _ _ _ _ T HA.out).mono ?_
    rintro e w1 ⟨rfl, n1⟩
    rw [HB.out]
    go_wp2
    go_ret2
    rw [HC.out, HB.out]
    exact ⟨_, _, _, rfl, OwnRatio.nil _ _ _, n1⟩

set_option maxRecDepth 100000 in
theorem iWaterAfter_any (w : World) (aa : Option Addr) (n ca : Nat) (T : List Tk) (ha : Tanks w aa n ca T) :
    Calls Try.prog 18 #[.slice aa n ca] w fun e w' => ∃ oa on oc, e = .returned (.tuple #[.slice oa on oc, .bool (tksB T)]) ∧ OwnRatio w' w.heap.size w'.heap.size oa on oc (waM T) ∧ New w w' := by
  have HN := Lib.hid ha.1
  have HA := Lib.hid ha; clear ha
  by_cases h : tksB T = true
  · have HC := Lib.hid (waM_yes h)
    have HB := Lib.hid h
    have HT := Lib.hid (tksB_iff.1 h); clear h
    have hn : n ≤ 6 := by have := HN.out; have := HT.out.l6; omega
    have HL := Lib.hid (com_lvbd HT.out)
    have hmk := run_makeRatio Try.underlying33 (show n ≤ 1048576 by omega)
    go_enter Try.func18, Try.ntmps18
    go_wp2_with fail
    refine (iAreTanks_any _ _ _ _ T HA.out).mono ?_
    rintro e w1 ⟨rfl, n1⟩
    rw [HB.out]
    have N1 := Lib.hid n1; clear n1
    go_wp2_with fail
    refine (commonLevel_any _ _ _ _ T (HA.out.new N1.out) HT.out).mono ?_
    rintro e w2 ⟨rfl, n2⟩
    have N2 := Lib.hid (N1.out.trans n2); clear n2
    obtain ⟨p1, hp1⟩ : ∃ p, p = (comR T).1 := ⟨_, rfl⟩
    obtain ⟨p2, hp2⟩ : ∃ p, p = (comR T).2 := ⟨_, rfl⟩
    have EC := Lib.hid (show comR T = (p1, p2) by rw [hp1, hp2])
    rw [EC.out]
    rw [EC.out] at HL
    clear hp1 hp2
    go_upto_region 4 with fail
    obtain ⟨w3, hw3⟩ : ∃ v, v = w2.alloc (.cells #[.int .i64 p1, .int .i64 p2] 25) := ⟨_, rfl⟩
    rw [← hw3]
    have b0 := Lib.hid (show w3.cell? ⟨w2.heap.size, 0, none⟩ = some (.int .i64 p1) by rw [hw3]; simp [go_sem])
    have b1 := Lib.hid (show w3.cell? ⟨w2.heap.size, 1, none⟩ = some (.int .i64 p2) by rw [hw3]; simp [go_sem])
    have N3 := Lib.hid (show New w w3 by have := N2.out; rw [hw3]; (repeat (first | with_reducible exact New.refl _ | with_reducible assumption | refine New.drewN ?_ _ | refine New.drew ?_ | refine New.alloc ?_ _ | refine New.setCell ?_ (by first | omega | (simp; omega) | (simp; done)) _ | (refine New.trans ?_ (by assumption)))))
    clear hw3
    obtain ⟨f0, hf0⟩ := rowIs_madeRatio w3 n 25
    have F0 := Lib.hid hf0; clear hf0
    go_wp2
    go_loopw [18] (fun i wr => ∃ (k : Nat) (f : Nat → Value), k ≤ n ∧ i = .int .i64 k ∧ wr.rowIs w3.heap.size 25 (n * 2) f ∧ (∀ j, j < k → f (j * 2) = .int .i64 (((waL T)[j]?.getD (0, 0)).1) ∧ f (j * 2 + 1) = .int .i64 (((waL T)[j]?.getD (0, 0)).2)) ∧ New w3 wr) (fun i _ => n - (intOf i).toNat)
    case atStart => exact ⟨0, f0, Nat.zero_le _, rfl, F0.out, fun j hj => absurd hj (by omega), (New.refl w3).alloc _⟩
    case round =>
      obtain ⟨k, f, hk, rfl, hrow, hf, hnw⟩ := hrel
      have zb := hnw.size
      have NW := Lib.hid hnw; clear hnw
      have HR := Lib.hid hrow; clear hrow
      have HF := Lib.hid hf; clear hf
      by_cases hlt : k < n
      · have KC := Lib.hid (show k < T.length by have := HN.out; omega)
        obtain ⟨b, o, rfl, g0, g1, g2⟩ := (HA.out.new (N3.out.trans NW.out)).2.2.2.1 k hlt
        have c0 := NW.out.cell b0.out
        have c1 := NW.out.cell b1.out
        have hbb := World.block_lt_of_cell? _ _ c0
        obtain ⟨a, ea⟩ : ∃ a, a = (T[k]?.getD (0, 0, 0)).1 := ⟨_, rfl⟩
        obtain ⟨f', ef⟩ : ∃ f, f = (T[k]?.getD (0, 0, 0)).2.1 := ⟨_, rfl⟩
        obtain ⟨u, eu⟩ : ∃ u, u = (T[k]?.getD (0, 0, 0)).2.2 := ⟨_, rfl⟩
        rw [← ea] at g0
        rw [← ef] at g1
        rw [← eu] at g2
        have ET := Lib.hid (show T[k]?.getD (0, 0, 0) = (a, f', u) by rw [ea, ef, eu]); clear ea ef eu
        have KO := Lib.hid (show TkOk (a, f', u) by rw [← ET.out]; exact HT.out.all _ (mem_get KC.out))
        clear hmk
        go_wp2_with fail
        refine (waterUpTo_any _ _ _ _ p1 p2 KO.out HL.out).mono ?_
        rintro e w4 ⟨rfl, n4⟩
        have N4 := Lib.hid (show New wr w4 from New.trans (by repeat (first | with_reducible exact New.refl _ | with_reducible assumption | refine New.drewN ?_ _ | refine New.drew ?_ | refine New.alloc ?_ _ | refine New.setCell ?_ (by first | omega | (simp; omega) | (simp; done)) _ | (refine New.trans ?_ (by assumption)))) n4); clear n4
        have EU := Lib.hid (show (waL T)[k]?.getD (0, 0) = red (upTo p1 p2 (a, f', u)) p2 by rw [waL_get KC.out, ET.out]; unfold upC upR; rw [EC.out])
        obtain ⟨xx, hxx⟩ : ∃ x, x = red (upTo p1 p2 (a, f', u)) p2 := ⟨_, rfl⟩
        rw [← hxx]
        have EX := Lib.hid (show (waL T)[k]?.getD (0, 0) = xx by rw [EU.out, hxx])
        clear hxx EU
        obtain ⟨x1, x2⟩ := xx
        have hr2 : w4.rowIs w3.heap.size 25 (n * 2) f := HR.out.of_block (N4.out.block _ HR.out.lt)
        have d0 : w4.cell? ⟨w3.heap.size, k * 2, none⟩ = some (f (k * 2)) := hr2.cell (by omega)
        have f0 := hr2.frozen (k * 2)
        have d1 : w4.cell? ⟨w3.heap.size, k * 2 + 1, none⟩ = some (f (k * 2 + 1)) := hr2.cell (by omega)
        have f1 := hr2.frozen (k * 2 + 1)
        have HR2 := Lib.hid hr2; clear hr2 g0 g1 g2
        go_wp2
        go_roundw
        case rel =>
          refine ⟨k + 1, _, by omega, by go_num, ((HR2.out.set (k * 2) _).set (k * 2 + 1) _), fun j hj => ?_, (((NW.out.trans N4.out).setCell (Nat.le_refl _) _).setCell (Nat.le_refl _) _)⟩
          by_cases e : j = k
          · subst e
            rw [EX.out]
            simp
          · rw [if_neg (by omega), if_neg (by omega), if_neg (by omega), if_neg (by omega)]
            exact HF.out j (by omega)
        case measure => simp [intOf]; omega
      · obtain rfl : k = n := by omega
        go_wp2
        go_ret2
        rw [HC.out, HB.out]
        refine ⟨_, _, _, rfl, ⟨by rw [waL_length]; exact HN.out, Nat.le_refl _, by omega, .inr ⟨w3.heap.size, f, rfl, N3.out.size, HR.out.lt, HR.out, HF.out⟩⟩, N3.out.trans NW.out⟩
  · have hf := bool_no h
    have HC := Lib.hid (waM_no hf)
    have HB := Lib.hid hf; clear h hf
    go_enter Try.func18, Try.ntmps18
    go_wp2_with fail
    refine (iAreTanks_any _ _ _ _ T HA.out).mono ?_
    rintro e w1 ⟨rfl, n1⟩
    rw [HB.out]
    go_wp2
    go_ret2
    rw [HC.out, HB.out]
    exact ⟨_, _, _, rfl, OwnRatio.nil _ _ _, n1⟩
end Go.Proofs.Ytkhniokfpmhonaa
