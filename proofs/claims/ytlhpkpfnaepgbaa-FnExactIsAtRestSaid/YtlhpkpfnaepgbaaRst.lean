/- IsAtRest, the model's and the program's. -/
import Derived.Test.YtlhpkpfnaepgbaaGlv
import Derived.Deep.RegionHeld3
import Derived.Deep.DeepCutAuto
namespace Go.Proofs.Ytlhpkpfnaepgbaa
open Go.RowKit Go.IntWalk

theorem com_lvbdR {T : List Tk} (h : TksOk T) : LvBd (comR T) := by
  have := com_bd h
  exact ⟨by omega, by omega, by omega, by omega⟩
noncomputable def okR (M : List Tk) (t : Tk) : Bool := (upR (comR M).1 (comR M).2 t).1 == t.2.2 && (upR (comR M).1 (comR M).2 t).2 == 1
noncomputable def grR (M : List Tk) : Bool := M.all (okR M)
noncomputable def rsB (T : List Tk) (L : List (List Int)) : Bool := gsB T L && (grsTo T.length (leadP (jP L)) T.length).all fun G => grR (memT T G)
theorem all_get {α : Type} {l : List α} {f : α → Bool} {d : α} (h : ∀ j, j < l.length → f (l[j]?.getD d) = true) : l.all f = true := by
  rw [List.all_eq_true]
  intro x hx
  obtain ⟨j, hj, rfl⟩ := List.getElem_of_mem hx
  have := h j hj
  rwa [List.getElem?_eq_getElem hj] at this
theorem all_not {α : Type} {l : List α} {f : α → Bool} {d : α} {j : Nat} (hj : j < l.length) (h : f (l[j]?.getD d) = false) : l.all f = false := by
  cases q : l.all f
  · rfl
  · rw [List.all_eq_true] at q
    have := q _ (List.getElem_mem hj)
    rw [List.getElem?_eq_getElem hj] at h
    simp only [Option.getD_some] at h
    rw [h] at this; cases this

set_option maxRecDepth 100000 in
set_option maxHeartbeats 2000000 in
theorem sIsAtRest_any (w : World) (aa : Option Addr) (n ca : Nat) (T : List Tk) (ab : Option Addr) (m cb : Nat) (L : List (List Int)) (ha : Tanks w aa n ca T) (hb : IntSS w ab m cb L) :
    Calls Try.prog 22 #[.slice aa n ca, .slice ab m cb] w fun e w' => e = .returned (.tuple #[.bool (rsB T L), .bool (gsB T L)]) ∧ New w w' := by
  have hn := ha.1
  have HA := Lib.hid ha; clear ha
  have HB := Lib.hid hb; clear hb
  cases h : gsB T L
  case false =>
    rw [show rsB T L = false by unfold rsB; rw [h]; rfl]
    have HG := Lib.hid h; clear h hn
    go_enter Try.func22, Try.ntmps22
    go_wp2_with fail
    refine (leJoined_any _ _ _ _ T _ _ _ L HA.out HB.out).mono ?_
    rintro e w1 ⟨rfl, n1⟩
    rw [HG.out]
    have N1 := Lib.hid n1; clear n1
    go_wp2
    go_ret2
    exact ⟨rfl, N1.out⟩
  case true =>
    have h2 : tksB T = true ∧ jnB T.length L = true := by unfold gsB at h; rwa [Bool.and_eq_true] at h
    have HT := Lib.hid (tksB_iff.1 h2.1)
    have HE := Lib.hid hn
    have hn6 : n ≤ 6 := by have := HT.out.l6; omega
    have hjj := h2.2
    have HK := Lib.hid (leadP_ok (jP L))
    obtain ⟨Gs, hGs⟩ : ∃ Gs, Gs = grsTo n (leadP (jP L)) n := ⟨_, rfl⟩
    have hlen : Gs.length ≤ n := by rw [hGs]; exact grsTo_len _ _ _
    have HO := Lib.hid (fun G hG => grs_ok HK.out (n := n) (G := G) (by rw [← hGs]; exact hG))
    obtain ⟨RR, hRR⟩ : ∃ RR, RR = rsB T L := ⟨_, rfl⟩
    have HR := Lib.hid (show RR = Gs.all fun G => grR (memT T G) by rw [hRR, hGs, hn]; unfold rsB; rw [h]; rfl)
    rw [← hRR]
    rw [← hn] at hjj
    have EG := Lib.hid hGs; clear hGs hRR
    have HG := Lib.hid h; clear h hn h2
    have HJ := Lib.hid hjj; clear hjj
    go_enter Try.func22, Try.ntmps22
    go_wp2_with fail
    refine (leJoined_any _ _ _ _ T _ _ _ L HA.out HB.out).mono ?_
    rintro e w1 ⟨rfl, n1⟩
    rw [HG.out]
    have N1 := Lib.hid n1; clear n1
    go_wp2_with fail
    refine (leGroups_any _ n _ _ _ L (HB.out.new N1.out) HJ.out hn6).mono ?_
    rw [← EG.out]
    rintro e w2 ⟨oa, on, oc, rfl, o2, n2⟩
    have GS := Lib.hid o2.reads; clear o2
    have hon : on = Gs.length := GS.out.1
    have HON := Lib.hid hon
    have on6 : on ≤ 6 := by omega
    have N2 := Lib.hid (N1.out.trans n2); clear n2 hon hlen
    go_wp2_with fail
    go_loopw [21] (fun i wr => ∃ k : Nat, k ≤ on ∧ i = .int .i64 k ∧ New w2 wr ∧ (∀ j, j < k → grR (memT T (Gs[j]?.getD [])) = true)) (fun i _ => on - (intOf i).toNat)
    case atStart => exact ⟨0, Nat.zero_le _, rfl, New.refl _, fun j hj => absurd hj (Nat.not_lt_zero _)⟩
    case round =>
      obtain ⟨k, hk, rfl, hnw, hal⟩ := hrel
      have NW := Lib.hid hnw; clear hnw
      have AL := Lib.hid hal; clear hal
      by_cases hlt : k < on
      · have KC := Lib.hid (show k < Gs.length by have := HON.out; omega)
        obtain ⟨b, o, a0, p, c, rfl, hc, hi⟩ := (GS.out.new NW.out).2.2.2.1 k hlt
        obtain ⟨G, hG⟩ : ∃ G, G = Gs[k]?.getD [] := ⟨_, rfl⟩
        have GO := Lib.hid (HO.out G (by rw [hG, List.getElem?_eq_getElem KC.out]; exact List.getElem_mem _))
        rw [← hG] at hi
        have HGk := Lib.hid hG; clear hG
        have hp6 : p ≤ 6 := by have := hi.1; have := GO.out.2.1; omega
        have II := Lib.hid hi; clear hi
        have TO := Lib.hid (memT_ok HT.out HE.out GO.out.1 GO.out.2.1 GO.out.2.2)
        go_wp2_with fail
        refine (leSome_any _ _ _ _ T _ _ _ G (HA.out.new (N2.out.trans NW.out)) II.out hp6 GO.out.2.2).mono ?_
        rintro e w3 ⟨sa, sc, rfl, o3, n3⟩
        have O3 := Lib.hid o3.reads; clear o3
        have N3 := Lib.hid (NW.out.trans n3); clear n3 hc
        go_wp2_with fail
        refine (leCommon_any _ _ _ _ _ O3.out TO.out).mono ?_
        rintro e w4 ⟨rfl, n4⟩
        obtain ⟨M, hM⟩ : ∃ M, M = memT T G := ⟨_, rfl⟩
        rw [← hM] at O3 TO ⊢
        have EM := Lib.hid hM; clear hM
        have LB := Lib.hid (com_lvbdR TO.out)
        obtain ⟨xx, hxx⟩ : ∃ x, x = comR M := ⟨_, rfl⟩
        rw [← hxx] at LB ⊢
        have EX := Lib.hid hxx; clear hxx
        obtain ⟨x1, x2⟩ := xx
        have N4 := Lib.hid n4; clear n4
        have PM := Lib.hid (show p = M.length from O3.out.1)
        unfold ratV
        go_upto_region 8 with fail
        obtain ⟨w5, hw5⟩ : ∃ u : World, u = w4.alloc (.cells #[.int .i64 x1, .int .i64 x2] 58) := ⟨_, rfl⟩
        rw [← hw5]
        have r0 : w5.cell? ⟨w4.heap.size, 0, none⟩ = some (.int .i64 x1) := by rw [hw5]; simp [go_sem]
        have r1 : w5.cell? ⟨w4.heap.size, 1, none⟩ = some (.int .i64 x2) := by rw [hw5]; simp [go_sem]
        have N5 := Lib.hid (show New w3 w5 by rw [hw5]; exact N4.out.alloc _)
        obtain ⟨B, hB⟩ : ∃ B, B = w4.heap.size := ⟨_, rfl⟩
        rw [← hB] at r0 r1 ⊢
        clear hw5 hB
        have RB := Lib.hid (And.intro r0 r1); clear r0 r1
        go_wp2_with fail
        go_loopw [32] (fun i wq => ∃ j : Nat, j ≤ p ∧ i = .int .i64 j ∧ New w5 wq ∧ (∀ q, q < j → okR M (M[q]?.getD (0, 0, 0)) = true)) (fun i _ => p - (intOf i).toNat)
        case atStart => exact ⟨0, Nat.zero_le _, rfl, New.refl _, fun j hj => absurd hj (Nat.not_lt_zero _)⟩
        case round =>
          obtain ⟨j, hj, rfl, hnq, hok⟩ := hrel
          have NQ := Lib.hid hnq; clear hnq
          have OK := Lib.hid hok; clear hok
          by_cases hjp : j < p
          · have JM := Lib.hid (show j < M.length by have := PM.out; omega)
            obtain ⟨bt, ot, rfl, g0, g1, g2⟩ := (O3.out.new (N5.out.trans NQ.out)).2.2.2.1 j hjp
            obtain ⟨a, ea⟩ : ∃ a, a = (M[j]?.getD (0, 0, 0)).1 := ⟨_, rfl⟩
            obtain ⟨f', ef⟩ : ∃ f, f = (M[j]?.getD (0, 0, 0)).2.1 := ⟨_, rfl⟩
            obtain ⟨u, eu⟩ : ∃ u, u = (M[j]?.getD (0, 0, 0)).2.2 := ⟨_, rfl⟩
            rw [← ea] at g0
            rw [← ef] at g1
            rw [← eu] at g2
            have ET := Lib.hid (show M[j]?.getD (0, 0, 0) = (a, f', u) by rw [ea, ef, eu]); clear ea ef eu
            have KO := Lib.hid (show TkOk (a, f', u) by rw [← ET.out]; exact TO.out.all _ (mem_get JM.out))
            go_upto_region 11 with fail
            obtain ⟨w6, hw6⟩ : ∃ v : World, v = wr.alloc (.cells #[.int .i64 a, .int .i64 f', .int .i64 u] 47) := ⟨_, rfl⟩
            rw [← hw6]
            have t0 : w6.cell? ⟨wr.heap.size, 0, none⟩ = some (.int .i64 a) := by rw [hw6]; simp [go_sem]
            have t1 : w6.cell? ⟨wr.heap.size, 1, none⟩ = some (.int .i64 f') := by rw [hw6]; simp [go_sem]
            have t2 : w6.cell? ⟨wr.heap.size, 2, none⟩ = some (.int .i64 u) := by rw [hw6]; simp [go_sem]
            have N6 := Lib.hid (show New w5 w6 by rw [hw6]; exact NQ.out.alloc _)
            have r0 := N6.out.cell RB.out.1
            have r1 := N6.out.cell RB.out.2
            obtain ⟨yy, hyy⟩ : ∃ y, y = upR x1 x2 (a, f', u) := ⟨_, rfl⟩
            have EY := Lib.hid hyy; clear hyy hw6 g0 g1 g2
            obtain ⟨y1, y2⟩ := yy
            have OKY := Lib.hid (show okR M (M[j]?.getD (0, 0, 0)) = (y1 == u && y2 == 1) by rw [ET.out]; unfold okR; rw [← EX.out]; show ((upR x1 x2 (a, f', u)).1 == u && (upR x1 x2 (a, f', u)).2 == 1) = _; rw [← EY.out])
            go_cut [42] (fun v W => v = .bool (!(y1 == u && y2 == 1)) ∧ New w6 W)
            case first =>
              by_cases h1 : y1 = u
              · by_cases h2 : y2 = 1
                · go_region_held3 (fun w' => w'.cell? ⟨wr.heap.size, 0, none⟩ = some (.int .i64 a) ∧ w'.cell? ⟨wr.heap.size, 1, none⟩ = some (.int .i64 f') ∧ w'.cell? ⟨wr.heap.size, 2, none⟩ = some (.int .i64 u) ∧ w'.cell? ⟨B, 0, none⟩ = some (.int .i64 x1) ∧ w'.cell? ⟨B, 1, none⟩ = some (.int .i64 x2))
                    (first | exact ⟨t0, t1, t2, r0, r1⟩ | exact ⟨e0, e1, e2, e3, e4⟩ | fail)
                    (first | (go_at_call 41; refine (leUp_any _ a f' u x1 x2 KO.out LB.out).mono ?_; rw [← EY.out]; unfold ratV; rintro e s1 ⟨rfl, n1⟩; (try replace n1 := New.undrew n1); have e0 := n1.cell t0; have e1 := n1.cell t1; have e2 := n1.cell t2; have e3 := n1.cell r0; have e4 := n1.cell r1))
                  all_goals (go_wp2_with fail; go_meet)
                  all_goals exact ⟨by simp [h1, h2], n1⟩
                · go_region_held3 (fun w' => w'.cell? ⟨wr.heap.size, 0, none⟩ = some (.int .i64 a) ∧ w'.cell? ⟨wr.heap.size, 1, none⟩ = some (.int .i64 f') ∧ w'.cell? ⟨wr.heap.size, 2, none⟩ = some (.int .i64 u) ∧ w'.cell? ⟨B, 0, none⟩ = some (.int .i64 x1) ∧ w'.cell? ⟨B, 1, none⟩ = some (.int .i64 x2))
                    (first | exact ⟨t0, t1, t2, r0, r1⟩ | exact ⟨e0, e1, e2, e3, e4⟩ | fail)
                    (first | (go_at_call 41; refine (leUp_any _ a f' u x1 x2 KO.out LB.out).mono ?_; rw [← EY.out]; unfold ratV; rintro e s1 ⟨rfl, n1⟩; (try replace n1 := New.undrew n1); have e0 := n1.cell t0; have e1 := n1.cell t1; have e2 := n1.cell t2; have e3 := n1.cell r0; have e4 := n1.cell r1))
                  all_goals (go_wp2_with fail; go_meet)
                  all_goals exact ⟨by simp [h2], n1⟩
              · go_region_held3 (fun w' => w'.cell? ⟨wr.heap.size, 0, none⟩ = some (.int .i64 a) ∧ w'.cell? ⟨wr.heap.size, 1, none⟩ = some (.int .i64 f') ∧ w'.cell? ⟨wr.heap.size, 2, none⟩ = some (.int .i64 u) ∧ w'.cell? ⟨B, 0, none⟩ = some (.int .i64 x1) ∧ w'.cell? ⟨B, 1, none⟩ = some (.int .i64 x2))
                  (first | exact ⟨t0, t1, t2, r0, r1⟩ | exact ⟨e0, e1, e2, e3, e4⟩ | fail)
                  (first | (go_at_call 41; refine (leUp_any _ a f' u x1 x2 KO.out LB.out).mono ?_; rw [← EY.out]; unfold ratV; rintro e s1 ⟨rfl, n1⟩; (try replace n1 := New.undrew n1); have e0 := n1.cell t0; have e1 := n1.cell t1; have e2 := n1.cell t2; have e3 := n1.cell r0; have e4 := n1.cell r1))
                all_goals (go_wp2_with fail; go_meet)
                all_goals exact ⟨by simp [h1], n1⟩
            case rest =>
              obtain ⟨rfl, hn6'⟩ := hcut
              obtain ⟨w7, rfl⟩ : ∃ v : World, v = wc := ⟨_, rfl⟩
              have N7 := Lib.hid (N6.out.trans hn6'); clear hn6' t0 t1 t2 r0 r1
              cases hv : (y1 == u && y2 == 1)
              · have R := Lib.hid (show RR = false by
                  rw [HR.out]
                  refine all_not (d := []) KC.out ?_
                  rw [← HGk.out, ← EM.out]
                  exact all_not (d := (0, 0, 0)) JM.out (OKY.out.trans hv))
                clear hv
                go_wp2
                go_ret2
                exact ⟨by rw [R.out]; rfl, ((N2.out.trans N3.out).trans (N5.out.trans N7.out))⟩
              · have V := Lib.hid (OKY.out.trans hv); clear hv
                go_wp2
                go_roundw
                case rel =>
                  refine ⟨j + 1, by omega, by go_num, N7.out, fun q hq => ?_⟩
                  by_cases e : q = j
                  · rw [e]; exact V.out
                  · exact OK.out q (by omega)
                case measure => simp [intOf]; omega
          · obtain rfl : j = p := by omega
            go_wp2_with fail
            go_roundw
            case rel =>
              refine ⟨k + 1, by omega, by go_num, N3.out.trans (N5.out.trans NQ.out), fun q hq => ?_⟩
              by_cases e : q = k
              · rw [e, ← HGk.out, ← EM.out]
                exact all_get (d := (0, 0, 0)) (fun i hi => OK.out i (by have := PM.out; omega))
              · exact AL.out q (by omega)
            case measure => simp [intOf]; omega
      · obtain rfl : k = on := by omega
        have R := Lib.hid (show RR = true by rw [HR.out]; exact all_get (d := []) (fun j hj => AL.out j (by have := HON.out; omega)))
        go_wp2
        go_ret2
        exact ⟨by rw [R.out]; rfl, N2.out.trans NW.out⟩
end Go.Proofs.Ytlhpkpfnaepgbaa
