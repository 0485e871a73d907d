/- GroupLevels, the model's and the program's. -/
import Derived.Test.YtlhpkpfnaepgbaaSom
import Derived.Test.YtlhpkpfnaepgbaaRowRatio
namespace Go.Proofs.Ytlhpkpfnaepgbaa
open Go.RowKit Go.IntWalk

noncomputable def glL (T : List Tk) (Gs : List (List Int)) : List (Int × Int) := Gs.map fun G => comR (memT T G)
theorem glL_length (T : List Tk) (Gs : List (List Int)) : (glL T Gs).length = Gs.length := by unfold glL; rw [List.length_map]
theorem glL_get {T : List Tk} {Gs : List (List Int)} {k : Nat} (hk : k < Gs.length) : (glL T Gs)[k]?.getD (0, 0) = comR (memT T (Gs[k]?.getD [])) := by
  unfold glL
  rw [List.getElem?_map, List.getElem?_eq_getElem hk]
  rfl
theorem glL_take {T : List Tk} {Gs : List (List Int)} {k : Nat} (hk : k < Gs.length) : (glL T Gs).take (k + 1) = (glL T Gs).take k ++ [comR (memT T (Gs[k]?.getD []))] := by
  have h : k < (glL T Gs).length := by rw [glL_length]; exact hk
  rw [List.take_add_one, List.getElem?_eq_getElem h]
  have := glL_get (T := T) hk
  rw [List.getElem?_eq_getElem h] at this
  simp only [Option.getD_some] at this
  rw [this]; rfl
noncomputable def glM (T : List Tk) (L : List (List Int)) : List (Int × Int) := if gsB T L = true then glL T (grsTo T.length (leadP (jP L)) T.length) else []
theorem glM_yes {T : List Tk} {L : List (List Int)} (h : gsB T L = true) : glM T L = glL T (grsTo T.length (leadP (jP L)) T.length) := by unfold glM; rw [if_pos h]
theorem glM_no {T : List Tk} {L : List (List Int)} (h : gsB T L = false) : glM T L = [] := by unfold glM; rw [if_neg (by rw [h]; decide)]
theorem glM_small (T : List Tk) (L : List (List Int)) : (glM T L).length ≤ 1048576 := by
  cases h : gsB T L
  · rw [glM_no h]; simp
  · rw [glM_yes h, glL_length]
    have h2 : tksB T = true := by unfold gsB at h; rw [Bool.and_eq_true] at h; exact h.1
    have hn6 := (tksB_iff.1 h2).l6
    have r := grsTo_len T.length (leadP (jP L)) T.length
    omega

set_option maxRecDepth 100000 in
set_option maxHeartbeats 2000000 in
theorem sGroupLevels_any (w : World) (aa : Option Addr) (n ca : Nat) (T : List Tk) (ab : Option Addr) (m cb : Nat) (L : List (List Int)) (ha : Tanks w aa n ca T) (hb : IntSS w ab m cb L) :
    Calls Try.prog 17 #[.slice aa n ca, .slice ab m cb] w fun e w' => ∃ oa on oc, e = .returned (.tuple #[.slice oa on oc, .bool (gsB T L)]) ∧ OwnRatio w' w.heap.size w'.heap.size oa on oc (glM T L) ∧ New w w' := by
  have hn := ha.1
  have HA := Lib.hid ha; clear ha
  have HB := Lib.hid hb; clear hb
  obtain ⟨i1, hj, hy0, hy1, hy2⟩ := info_parts Try.infoRowRatio
  cases h : gsB T L
  case false =>
    rw [glM_no h]
    have HG := Lib.hid h; clear h hn
    go_enter Try.func17, Try.ntmps17
    go_wp2_with fail
    refine (leJoined_any _ _ _ _ T _ _ _ L HA.out HB.out).mono ?_
    rintro e w1 ⟨rfl, n1⟩
    rw [HG.out]
    have N1 := Lib.hid n1; clear n1
    go_wp2
    go_ret2
    exact ⟨none, 0, 0, rfl, OwnRatio.nil _ _ _, N1.out⟩
  case true =>
    rw [glM_yes h]
    have h2 : tksB T = true ∧ jnB T.length L = true := by unfold gsB at h; rwa [Bool.and_eq_true] at h
    have HT := Lib.hid (tksB_iff.1 h2.1)
    have HE := Lib.hid hn
    have hn6 : n ≤ 6 := by have := HT.out.l6; omega
    have hjj := h2.2
    rw [← hn] at hjj ⊢
    have HK := Lib.hid (leadP_ok (jP L))
    obtain ⟨Gs, hGs⟩ : ∃ Gs, Gs = grsTo n (leadP (jP L)) n := ⟨_, rfl⟩
    have hlen : Gs.length ≤ n := by rw [hGs]; exact grsTo_len _ _ _
    have HO := Lib.hid (fun G hG => grs_ok HK.out (n := n) (G := G) (by rw [← hGs]; exact hG))
    rw [← hGs]
    have EG := Lib.hid hGs; clear hGs
    have HG := Lib.hid h; clear h hn h2
    have HJ := Lib.hid hjj; clear hjj
    go_enter Try.func17, Try.ntmps17
    go_wp2_with fail
    refine (leJoined_any _ _ _ _ T _ _ _ L HA.out HB.out).mono ?_
    rintro e w1 ⟨rfl, n1⟩
    rw [HG.out]
    have N1 := Lib.hid n1; clear n1
    go_wp2_with fail
    refine (leGroups_any _ n _ _ _ L (HB.out.new N1.out) HJ.out hn6).mono ?_
    rw [← EG.out]
    rintro e w2 ⟨oa, on, oc, rfl, o2, n2⟩
    have GS := Lib.hid o2.reads; clear o2
    have hon : on = Gs.length := GS.out.1
    have HON := Lib.hid hon
    have on6 : on ≤ 6 := by omega
    have z := N1.out.size
    have z2 := n2.size
    have N2 := Lib.hid (N1.out.trans n2); clear n2 hon hlen
    go_wp2_with fail
    go_loopw [6, 18] (fun vo i wr => ∃ k : Nat, k ≤ on ∧ i = .int .i64 k ∧ New w2 wr ∧ wr.ownsRow w2.heap.size 58 2 vo k (flatRatio ((glL T Gs).take k))) (fun _ i _ => on - (intOf i).toNat)
    case atStart => exact ⟨0, Nat.zero_le _, rfl, New.refl _, World.ownsRow_nil _ _ _ _⟩
    case round =>
      obtain ⟨k, hk, rfl, hnw, hro⟩ := hrel
      have zb := hnw.size
      have NW := Lib.hid hnw; clear hnw
      have RO := Lib.hid hro; clear hro
      by_cases hlt : k < on
      · have KC := Lib.hid (show k < Gs.length by have := HON.out; omega)
        obtain ⟨b, o, a, p, c, rfl, hc, hi⟩ := (GS.out.new NW.out).2.2.2.1 k hlt
        obtain ⟨G, hG⟩ : ∃ G, G = Gs[k]?.getD [] := ⟨_, rfl⟩
        have GO := Lib.hid (HO.out G (by rw [hG, List.getElem?_eq_getElem KC.out]; exact List.getElem_mem _))
        have TK := Lib.hid (show (glL T Gs).take (k + 1) = (glL T Gs).take k ++ [comR (memT T G)] by rw [glL_take KC.out, hG])
        rw [← hG] at hi
        clear hG
        have hp6 : p ≤ 6 := by have := hi.1; have := GO.out.2.1; omega
        have II := Lib.hid hi; clear hi
        have TO := Lib.hid (memT_ok HT.out HE.out GO.out.1 GO.out.2.1 GO.out.2.2)
        go_wp2_with fail
        refine (leSome_any _ _ _ _ T _ _ _ G (HA.out.new (N2.out.trans NW.out)) II.out hp6 GO.out.2.2).mono ?_
        rintro e w3 ⟨sa, sc, rfl, o3, n3⟩
        have O3 := Lib.hid o3.reads; clear o3
        have N3 := Lib.hid n3; clear n3 hc
        go_wp2_with fail
        refine (leCommon_any _ _ _ _ _ O3.out TO.out).mono ?_
        rintro e w4 ⟨rfl, n4⟩
        obtain ⟨xx, hxx⟩ : ∃ x, x = comR (memT T G) := ⟨_, rfl⟩
        rw [← hxx]
        have EX := Lib.hid hxx; clear hxx
        obtain ⟨x1, x2⟩ := xx
        have N4 := Lib.hid (N3.out.trans n4); clear n4
        have z4 := N4.out.size
        unfold ratV
        go_wp2_with (at_builtin; go_loud (refine wpList_append_lies _ (by rfl) (.tmp 22) (.tmp 27) 35 (by rfl) w2.heap.size 58 i1 _ 2 16 Try.underlying35 hj hy0 hy1 hy2 rfl (by decide) _ k _ (by rfl) (ownsRow_new RO.out (New.trans N4.out (by repeat (first | with_reducible exact New.refl _ | with_reducible assumption | refine New.drewN ?_ _ | refine New.drew ?_ | refine New.alloc ?_ _ | refine New.setCell ?_ (by first | omega | (simp; omega) | (simp; done)) _ | (refine New.trans ?_ (by assumption)))))) _ _ _ [.int .i64 x1, .int .i64 x2] (by rfl) (by rfl) (World.news_of_block (cs := #[.int .i64 x1, .int .i64 x2]) (t := 58) (fr := (0, 0)) (heap_alloc_at (by simp))) (by simp [Value.oneCell']) (by omega) (by unfold maxLen; omega) (by omega) (by simp; omega) _ rfl ?_; intro g cap w5 ho hg hb' hlt'; have N5 := Lib.hid (New.grown (w0 := w2) (w := _) ((NW.out.trans N4.out).trans (by repeat (first | with_reducible exact New.refl _ | with_reducible assumption | refine New.drewN ?_ _ | refine New.drew ?_ | refine New.alloc ?_ _ | refine New.setCell ?_ (by first | omega | (simp; omega) | (simp; done)) _ | (refine New.trans ?_ (by assumption))))) (ownsRow_new RO.out (New.trans N4.out (by repeat (first | with_reducible exact New.refl _ | with_reducible assumption | refine New.drewN ?_ _ | refine New.drew ?_ | refine New.alloc ?_ _ | refine New.setCell ?_ (by first | omega | (simp; omega) | (simp; done)) _ | (refine New.trans ?_ (by assumption)))))) (by omega) hg); have RO5 := Lib.hid ho; clear ho hg hb' hlt'))
        go_roundw
        case rel =>
          refine ⟨k + 1, by omega, by go_num, N5.out, ?_⟩
          rw [TK.out, ← EX.out, flatRatio_append]
          exact RO5.out
        case measure => simp [intOf]; omega
      · obtain rfl : k = on := by omega
        go_wp2
        have e0 : (glL T Gs).take k = glL T Gs := List.take_of_length_le (by rw [glL_length]; have := HON.out; omega)
        have r0 := RO.out
        rw [e0] at r0
        obtain ⟨ra, rc, e1, o1⟩ := OwnRatio.of_row r0
        subst e1
        go_ret2
        exact ⟨_, _, _, rfl, o1.mono (by omega) (Nat.le_refl _), N2.out.trans NW.out⟩

set_option maxRecDepth 100000 in
set_option maxHeartbeats 2000000 in
theorem iGroupLevels_any (w : World) (aa : Option Addr) (n ca : Nat) (T : List Tk) (ab : Option Addr) (m cb : Nat) (L : List (List Int)) (ha : Tanks w aa n ca T) (hb : IntSS w ab m cb L) :
    Calls Try.prog 18 #[.slice aa n ca, .slice ab m cb] w fun e w' => ∃ oa on oc, e = .returned (.tuple #[.slice oa on oc, .bool (gsB T L)]) ∧ OwnRatio w' w.heap.size w'.heap.size oa on oc (glM T L) ∧ New w w' := by
  have hn := ha.1
  have HA := Lib.hid ha; clear ha
  have HB := Lib.hid hb; clear hb
  cases h : gsB T L
  case false =>
    rw [glM_no h]
    have HG := Lib.hid h; clear h hn
    go_enter Try.func18, Try.ntmps18
    go_wp2_with fail
    refine (iGroupsOf_any _ _ _ _ T _ _ _ L HA.out HB.out).mono ?_
    rintro e w1 ⟨oa, on, oc, rfl, o1, n1⟩
    clear o1
    rw [HG.out]
    have N1 := Lib.hid n1; clear n1
    go_wp2
    go_ret2
    exact ⟨none, 0, 0, rfl, OwnRatio.nil _ _ _, N1.out⟩
  case true =>
    rw [glM_yes h]
    have h2 : tksB T = true := by unfold gsB at h; rw [Bool.and_eq_true] at h; exact h.1
    have HT := Lib.hid (tksB_iff.1 h2)
    have HE := Lib.hid hn
    have hn6 : n ≤ 6 := by have := HT.out.l6; omega
    have HM := Lib.hid (gsM_yes h)
    rw [← hn] at HM ⊢
    have HK := Lib.hid (leadP_ok (jP L))
    obtain ⟨Gs, hGs⟩ : ∃ Gs, Gs = grsTo n (leadP (jP L)) n := ⟨_, rfl⟩
    have hlen : Gs.length ≤ n := by rw [hGs]; exact grsTo_len _ _ _
    have HO := Lib.hid (fun G hG => grs_ok HK.out (n := n) (G := G) (by rw [← hGs]; exact hG))
    rw [← hGs] at HM ⊢
    clear hGs
    have HG := Lib.hid h; clear h hn h2
    go_enter Try.func18, Try.ntmps18
    go_wp2_with fail
    refine (iGroupsOf_any _ _ _ _ T _ _ _ L HA.out HB.out).mono ?_
    rw [HM.out, HG.out]
    rintro e w2 ⟨oa, on, oc, rfl, o2, n2⟩
    have GS := Lib.hid o2.reads; clear o2
    have hon : on = Gs.length := GS.out.1
    have HON := Lib.hid hon
    have on6 : on ≤ 6 := by omega
    have z2 := n2.size
    have N2 := Lib.hid n2; clear n2 hon hlen
    have hmk := run_makeRatio Try.underlying35 (n := on) (by omega)
    obtain ⟨f0, hf0⟩ := rowIs_madeRatio w2 on 58
    have F0 := Lib.hid hf0; clear hf0
    go_wp2_with fail
    go_loopw [24] (fun i wr => ∃ (k : Nat) (f : Nat → Value), k ≤ on ∧ i = .int .i64 k ∧ wr.rowIs w2.heap.size 58 (on * 2) f ∧ (∀ j, j < k → f (j * 2) = .int .i64 ((glL T Gs)[j]?.getD (0, 0)).1 ∧ f (j * 2 + 1) = .int .i64 ((glL T Gs)[j]?.getD (0, 0)).2) ∧ New w2 wr) (fun i _ => on - (intOf i).toNat)
    case atStart => exact ⟨0, f0, Nat.zero_le _, rfl, F0.out, fun j hj => absurd hj (by omega), (New.refl w2).alloc _⟩
    case round =>
      obtain ⟨k, f, hk, rfl, hrow, hf, hnew⟩ := hrel
      have HR := Lib.hid hrow; clear hrow
      have HF := Lib.hid hf; clear hf
      have NW := Lib.hid hnew; clear hnew
      by_cases hlt : k < on
      · have KC := Lib.hid (show k < Gs.length by have := HON.out; omega)
        clear hmk
        obtain ⟨b, o, a, p, c, rfl, hc, hi⟩ := (GS.out.new NW.out).2.2.2.1 k hlt
        obtain ⟨G, hG⟩ : ∃ G, G = Gs[k]?.getD [] := ⟨_, rfl⟩
        have GO := Lib.hid (HO.out G (by rw [hG, List.getElem?_eq_getElem KC.out]; exact List.getElem_mem _))
        have TK := Lib.hid (show (glL T Gs)[k]?.getD (0, 0) = comR (memT T G) by rw [glL_get KC.out, hG])
        rw [← hG] at hi
        clear hG
        have hp6 : p ≤ 6 := by have := hi.1; have := GO.out.2.1; omega
        have II := Lib.hid hi; clear hi
        have TO := Lib.hid (memT_ok HT.out HE.out GO.out.1 GO.out.2.1 GO.out.2.2)
        go_wp2_with fail
        refine (tanksIn_any _ _ _ _ T _ _ _ G (HA.out.new (N2.out.trans NW.out)) II.out hp6 GO.out.2.2).mono ?_
        rintro e w3 ⟨sa, sc, rfl, o3, n3⟩
        have O3 := Lib.hid o3.reads; clear o3
        have N3 := Lib.hid n3; clear n3 hc
        go_wp2_with fail
        refine (commonLevel_any _ _ _ _ _ O3.out TO.out).mono ?_
        rintro e w4 ⟨rfl, n4⟩
        rw [← TK.out]
        have N4 := Lib.hid (N3.out.trans n4); clear n4
        have hr2 : w4.rowIs w2.heap.size 58 (on * 2) f := HR.out.of_block (N4.out.block _ HR.out.lt)
        have c0 : w4.cell? ⟨w2.heap.size, k * 2, none⟩ = some (f (k * 2)) := hr2.cell (by omega)
        have q0 := hr2.frozen (k * 2)
        have c1 : w4.cell? ⟨w2.heap.size, k * 2 + 1, none⟩ = some (f (k * 2 + 1)) := hr2.cell (by omega)
        have q1 := hr2.frozen (k * 2 + 1)
        have HR2 := Lib.hid hr2; clear hr2
        unfold ratV
        go_wp2
        go_roundw
        case rel =>
          refine ⟨k + 1, _, by omega, by go_num, ((HR2.out.set (k * 2) _).set (k * 2 + 1) _), fun j hj => ?_, (((NW.out.trans N4.out).setCell (Nat.le_refl _) _).setCell (Nat.le_refl _) _)⟩
          by_cases e : j = k
          · subst e
            simp
          · rw [if_neg (by omega), if_neg (by omega), if_neg (by omega), if_neg (by omega)]
            exact HF.out j (by omega)
        case measure => simp [intOf]; omega
      · obtain rfl : k = on := by omega
        go_wp2
        go_ret2
        exact ⟨_, _, _, rfl, ⟨by rw [glL_length]; exact HON.out, Nat.le_refl _, by omega, .inr ⟨w2.heap.size, f, rfl, z2, HR.out.lt, HR.out, HF.out⟩⟩, N2.out.trans NW.out⟩
end Go.Proofs.Ytlhpkpfnaepgbaa
