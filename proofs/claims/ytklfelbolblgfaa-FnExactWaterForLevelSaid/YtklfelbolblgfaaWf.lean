/- WaterForLevel: the model's and the program's. -/
import Derived.Test.YtklfelbolblgfaaWb
import Derived.Test.YtklfelbolblgfaaOrdS
import Derived.Deep.RegionHeld3
namespace Go.Proofs.Ytklfelbolblgfaa
open Go.RowKit Go.IntWalk Go.Shelf

theorem srt_first {T : List Tk} (h : TksOk T) : ((srt T)[0]?.getD (0, 0, 0)).2.1 = lfL T := by
  have h1 := h.l1
  have hm := mem_get (T := srt T) (k := 0) (by rw [srt_length]; omega)
  have a1 := lfL_le ((srt_perm T).mem_iff.1 hm)
  obtain ⟨t, ht, e⟩ := lfL_mem h
  have ht' := (srt_perm T).mem_iff.2 ht
  obtain ⟨j, hj, rfl⟩ := List.getElem_of_mem ht'
  rw [srt_length] at hj
  have a2 := srt_le (T := T) (i := 0) (j := j) (by omega) hj
  rw [List.getElem?_eq_getElem (show j < (srt T).length by rw [srt_length]; exact hj)] at a2
  simp only [Option.getD_some] at a2
  omega
def wfB (T : List Tk) (a b : Int) : Bool := wbB T a b && decide (lfL T * b ≤ a)
def wfR (T : List Tk) (a b : Int) : Int × Int := red ((wbR T a b).1 - watL T * (wbR T a b).2) (wbR T a b).2
def wfM (T : List Tk) (a b : Int) : Int × Int := if wfB T a b then wfR T a b else (0, 0)
theorem wfM_yes {T : List Tk} {a b : Int} (h : wfB T a b = true) : wfM T a b = wfR T a b := by unfold wfM; rw [if_pos h]
theorem wfM_no {T : List Tk} {a b : Int} (h : wfB T a b = false) : wfM T a b = (0, 0) := by unfold wfM; rw [h]; rfl
theorem wbR_bd {T : List Tk} {a b : Int} (h : TksOk T) (k : LvlOk a b) : 0 ≤ (wbR T a b).1 ∧ (wbR T a b).1 ≤ 300000000 ∧ 1 ≤ (wbR T a b).2 ∧ (wbR T a b).2 ≤ 1000 := by
  have bb := below_bd h k.bd T.length
  rw [List.take_of_length_le (Nat.le_refl _)] at bb
  simp only at bb
  have d0 := k.bd.d0; have d1 := k.bd.d1
  simp only at d0 d1
  have hr := red_le (n := belowL a b T) (show 0 < b by omega)
  have hp := red_pos (n := belowL a b T) (show 0 < b by omega)
  have h2 := hr.2.1 (by unfold belowL; omega)
  unfold wbR
  unfold belowL at *
  omega

set_option maxRecDepth 100000 in
set_option maxHeartbeats 4000000 in
theorem sWaterForLevel_any (w : World) (aa : Option Addr) (n ca : Nat) (T : List Tk) (a b : Int) (ha : Tanks w aa n ca T) :
    Calls Try.prog 26 #[.slice aa n ca, ratV (a, b)] w fun e w' => e = .returned (.tuple #[ratV (wfM T a b), .bool (wfB T a b)]) ∧ New w w' := by
  have HN := Lib.hid ha.1
  have HA := Lib.hid ha; clear ha
  by_cases h : wbB T a b = true
  · have HW := Lib.hid h
    have OK := Lib.hid (wbB_iff.1 h)
    have HT := Lib.hid OK.out.1
    have q1 := OK.out.2.bd.n0; have q2 := OK.out.2.bd.n1; have q3 := OK.out.2.bd.d0; have q4 := OK.out.2.bd.d1
    simp only at q1 q2 q3 q4
    have hn : n ≤ 6 := by have := HN.out; have := HT.out.l6; omega
    have hn1 : 1 ≤ n := by have := HN.out; have := HT.out.l1; omega
    have KC := Lib.hid (show 0 < T.length by have := HN.out; omega)
    obtain ⟨x, hx⟩ : ∃ x, x = (ordN T)[0]?.getD 0 := ⟨_, rfl⟩
    have hxn : x < n := by rw [hx]; have := ordK_lt (f := flT T) KC.out; have := HN.out; unfold ordN; omega
    have EX := Lib.hid (show (ordL T)[0]?.getD 0 = (x : Int) by rw [hx]; exact map_get _ _)
    obtain ⟨bt, ot, rfl, t0, t1, t2⟩ := HA.out.2.2.2.1 x hxn
    have ef : (T[x]?.getD (0, 0, 0)).2.1 = lfL T := by rw [hx, ← srt_get KC.out]; exact srt_first HT.out
    rw [ef] at t1
    have lb := lfK_bd HT.out T.length (Nat.le_refl _)
    obtain ⟨f, hf⟩ : ∃ f, f = lfL T := ⟨_, rfl⟩
    have lb' : 0 ≤ f ∧ f ≤ 100 := by rw [hf]; exact lb
    rw [← hf] at t1
    have EF := Lib.hid (show lfL T = f from hf.symm)
    clear t0 t2 ef lb hf hx h
    obtain ⟨lb1, lb2⟩ := lb'
    have hm := mul_bd lb1 lb2 (show 0 ≤ b by omega) q4
    obtain ⟨hm1, hm2⟩ := hm
    have hbt := World.block_lt_of_cell? _ _ t1
    have WF := Lib.hid (show wfB T a b = decide (f * b ≤ a) by unfold wfB; rw [HW.out, EF.out]; rfl)
    have bw := watL_bd HT.out
    have wr := wbR_bd HT.out OK.out.2
    obtain ⟨P, hP⟩ : ∃ P, P = wbR T a b := ⟨_, rfl⟩
    have EP := Lib.hid (show wbR T a b = P from hP.symm)
    have ER := Lib.hid (show wfR T a b = red (P.1 - watL T * P.2) P.2 by rw [hP]; rfl)
    rw [← hP] at wr
    clear hP
    obtain ⟨p1, p2⟩ := P
    simp only at wr ER
    obtain ⟨wr1, wr2, wr3, wr4⟩ := wr
    go_enter Try.func26, Try.ntmps26
    go_upto_region 1 with fail
    obtain ⟨v0, hv0⟩ : ∃ xx : World, xx = ((w.alloc (.cells #[.int .i64 a, .int .i64 b] 29)).alloc (.cells #[.int .i64 0, .int .i64 0] 29)) := ⟨_, rfl⟩
    rw [← hv0]
    have l0_v0 : v0.cell? ⟨w.heap.size, 0, none⟩ = some (.int .i64 a) := by rw [hv0]; simp [go_sem]
    have l1_v0 : v0.cell? ⟨w.heap.size, 1, none⟩ = some (.int .i64 b) := by rw [hv0]; simp [go_sem]
    have r0_v0 : v0.cell? ⟨w.heap.size + 1, 0, none⟩ = some (.int .i64 0) := by rw [hv0]; simp [go_sem]
    have zr0_v0 : v0.frozen? ⟨w.heap.size + 1, 0, none⟩ = false := by rw [hv0]; simp [go_sem]
    have r1_v0 : v0.cell? ⟨w.heap.size + 1, 1, none⟩ = some (.int .i64 0) := by rw [hv0]; simp [go_sem]
    have zr1_v0 : v0.frozen? ⟨w.heap.size + 1, 1, none⟩ = false := by rw [hv0]; simp [go_sem]
    have N0 := Lib.hid (show New w v0 by rw [hv0]; exact (by repeat (first | with_reducible exact New.refl _ | with_reducible assumption | refine New.drewN ?_ _ | refine New.drew ?_ | refine New.alloc ?_ _ | refine New.setCell ?_ (by first | omega | (simp; omega) | (simp; done)) _ | (refine New.trans ?_ (by assumption)))))
    have zv0 : w.heap.size + 1 < v0.heap.size := by rw [hv0]; simp
    clear hv0
    have t1_v0 : v0.cell? ⟨bt, ot + x * 3 + 1, none⟩ = some (.int .i64 f) := N0.out.cell t1
    have hn1' : (0 : Int) < (n : Int) := by omega
    go_cut [29] (fun q W => q = .bool (decide (a < f * b)) ∧ New v0 W)
    case first =>
      go_region_with (first
        | (go_at_call 50; refine (leAsked_any _ _ _ _ T a b (HA.out.new (N0.out.trans (by repeat (first | with_reducible exact New.refl _ | with_reducible assumption | refine New.drewN ?_ _ | refine New.drew ?_ | refine New.alloc ?_ _ | refine New.setCell ?_ (by first | omega | (simp; omega) | (simp; done)) _ | (refine New.trans ?_ (by assumption))))))).mono ?_; rintro e u1 ⟨rfl, n_u1⟩; (try replace n_u1 := New.undrew n_u1); have l0_u1 := n_u1.cell l0_v0; have l1_u1 := n_u1.cell l1_v0; have t1_u1 := n_u1.cell t1_v0; rw [HW.out])
        | (go_at_call 57; refine (leOrder_any _ _ _ _ T (HA.out.new (N0.out.trans (New.trans n_u1 (by repeat (first | with_reducible exact New.refl _ | with_reducible assumption | refine New.drewN ?_ _ | refine New.drew ?_ | refine New.alloc ?_ _ | refine New.setCell ?_ (by first | omega | (simp; omega) | (simp; done)) _ | (refine New.trans ?_ (by assumption))))))) hn).mono ?_; rintro e u2 ⟨oa, oc, rfl, oo, n_u2⟩; (try replace n_u2 := New.undrew n_u2); have l0_u2 := n_u2.cell l0_u1; have l1_u2 := n_u2.cell l1_u1; have t1_u2 := n_u2.cell t1_u1; have oi := oo.ints; obtain ⟨go, oo1, rfl, co, hgo⟩ := oi.at (j := 0) (by omega); rw [EX.out, Nat.add_zero] at co))
      all_goals (go_wp2_with fail; go_meet)
      all_goals
        refine ⟨?_, ?_⟩
        · first | rfl | (rw [i64_in _ (by omega)])
        · have := n_u1.trans n_u2
          (repeat (first | with_reducible exact New.refl _ | with_reducible assumption | refine New.drewN ?_ _ | refine New.drew ?_ | refine New.alloc ?_ _ | refine New.setCell ?_ (by first | omega | (simp; omega) | (simp; done)) _ | (refine New.trans ?_ (by assumption))))
    case rest =>
      obtain ⟨rfl, hnw⟩ := hcut
      obtain ⟨w2, rfl⟩ : ∃ u : World, u = wc := ⟨_, rfl⟩
      have l0 := hnw.cell l0_v0
      have l1 := hnw.cell l1_v0
      obtain ⟨r0, r1, y0, y1⟩ := pair_kept hnw ⟨r0_v0, r1_v0, zr0_v0, zr1_v0⟩
      have N2 := Lib.hid (N0.out.trans hnw)
      clear hnw l0_v0 l1_v0 r0_v0 r1_v0 zr0_v0 zr1_v0 t1_v0 t1
      have zr : w.heap.size + 1 < w2.heap.size := World.block_lt_of_cell? _ _ r0
      by_cases c : a < f * b
      · have WB := Lib.hid (show wfB T a b = false by rw [WF.out]; exact decide_eq_false (by omega))
        have WM := Lib.hid (wfM_no WB.out)
        go_wp2
        refine bodyPost_ret (v := .tuple #[ratV (0, 0), .bool false]) (by simp [results, Try.results26, go_sem, r0, r1]) rfl ⟨by rw [WM.out, WB.out], ?_⟩
        have := N2.out
        (repeat (first | with_reducible exact New.refl _ | with_reducible assumption | refine New.drewN ?_ _ | refine New.drew ?_ | refine New.alloc ?_ _ | refine New.setCell ?_ (by first | omega | (simp; omega) | (simp; done)) _ | (refine New.trans ?_ (by assumption))))
      · have c' : f * b ≤ a := by omega
        have WB := Lib.hid (show wfB T a b = true by rw [WF.out]; exact decide_eq_true (by omega))
        have WM := Lib.hid (wfM_yes WB.out)
        go_wp2
        obtain ⟨w3, rfl⟩ : ∃ u : World, u = w2 := ⟨_, rfl⟩
        go_loopw [6, 33] (fun y i wr => ∃ k : Nat, k ≤ n ∧ i = .int .i64 k ∧ y = .int .i64 (sumL (fun t => t.2.2) (T.take k)) ∧ New w3 wr) (fun _ i _ => n - (intOf i).toNat)
        case atStart => exact ⟨0, Nat.zero_le _, rfl, rfl, New.refl _⟩
        case round =>
          obtain ⟨k, hk, rfl, rfl, hnw⟩ := hrel
          have NW := Lib.hid hnw; clear hnw
          by_cases hlt : k < n
          · have KC2 := Lib.hid (show k < T.length by have := HN.out; omega)
            obtain ⟨b', o', eb, g0, g1, g2⟩ := (HA.out.new (N2.out.trans NW.out)).2.2.2.1 k hlt
            cases eb
            have hs := sumL_take_bd (g := fun t => t.2.2) (lo := 0) (hi := 10000) (fun t ht => ⟨(HT.out.all t ht).w1, (HT.out.all t ht).w2⟩) HT.out.l6 (by omega) (by omega) k
            obtain ⟨hs1, hs2⟩ := hs
            have hg1 := (HT.out.all _ (mem_get KC2.out)).w1
            have hg2 := (HT.out.all _ (mem_get KC2.out)).w2
            obtain ⟨y, hy⟩ : ∃ y, y = (T[k]?.getD (0, 0, 0)).2.2 := ⟨_, rfl⟩
            rw [← hy] at hg1 hg2 g2
            have HY := Lib.hid hy; clear hy
            go_wp2
            go_roundw
            case rel => exact ⟨k + 1, by omega, by go_num, by rw [sumL_take _ _ _ KC2.out, HY.out], New.trans NW.out (by repeat (first | with_reducible exact New.refl _ | with_reducible assumption | refine New.drewN ?_ _ | refine New.drew ?_ | refine New.alloc ?_ _ | refine New.setCell ?_ (by first | omega | (simp; omega) | (simp; done)) _ | (refine New.trans ?_ (by assumption))))⟩
            case measure => simp [intOf]; omega
          · obtain rfl : k = n := by omega
            have hw : sumL (fun t => t.2.2) (T.take k) = watL T := by rw [List.take_of_length_le (by have := HN.out; omega)]; rfl
            rw [hw]; clear hw
            obtain ⟨WA, hWA⟩ : ∃ x, x = watL T := ⟨_, rfl⟩
            rw [← hWA] at bw ER ⊢
            clear hWA
            have m0 := NW.out.cell l0; have m1 := NW.out.cell l1
            obtain ⟨s0, s1, z0, z1⟩ := pair_kept NW.out ⟨r0, r1, y0, y1⟩
            have hmb := mul_bd bw.1 bw.2 (show 0 ≤ p2 by omega) wr4
            obtain ⟨hmb1, hmb2⟩ := hmb
            have hlb := World.block_lt_of_cell? _ _ m0
            go_wp2_with fail
            refine (leBelow_any _ _ _ _ T a b (HA.out.new (N2.out.trans NW.out)) HT.out OK.out.2.bd).mono ?_
            rintro e w4 ⟨rfl, n4⟩
            rw [EP.out]
            obtain ⟨s0, s1, z0, z1⟩ := pair_kept n4 ⟨s0, s1, z0, z1⟩
            have N4 := Lib.hid (N2.out.trans (NW.out.trans n4))
            have zw4 := (NW.out.trans n4).size
            clear n4 m0 m1
            go_upto_region 10 with fail
            obtain ⟨w5, hw5⟩ : ∃ xx : World, xx = w4.alloc (.cells #[.int .i64 p1, .int .i64 p2] 29) := ⟨_, rfl⟩
            rw [← hw5]
            have e0 : w5.cell? ⟨w4.heap.size, 0, none⟩ = some (.int .i64 p1) := by rw [hw5]; simp [go_sem]
            have e1 : w5.cell? ⟨w4.heap.size, 1, none⟩ = some (.int .i64 p2) := by rw [hw5]; simp [go_sem]
            have M5 := Lib.hid (show New w4 w5 by rw [hw5]; exact (by repeat (first | with_reducible exact New.refl _ | with_reducible assumption | refine New.drewN ?_ _ | refine New.drew ?_ | refine New.alloc ?_ _ | refine New.setCell ?_ (by first | omega | (simp; omega) | (simp; done)) _ | (refine New.trans ?_ (by assumption)))))
            clear hw5
            obtain ⟨s0, s1, z0, z1⟩ := pair_kept M5.out ⟨s0, s1, z0, z1⟩
            go_wp2_with fail
            refine (leRatio_any _ (p1 - WA * p2) p2 (by omega) (by omega) (by omega) (by omega)).mono ?_
            rintro e w6 ⟨rfl, n6⟩
            obtain ⟨s0, s1, z0, z1⟩ := pair_kept n6 ⟨s0, s1, z0, z1⟩
            have N6 := Lib.hid (N4.out.trans (M5.out.trans n6)); clear n6
            obtain ⟨p, hp⟩ : ∃ p, p = red (p1 - WA * p2) p2 := ⟨_, rfl⟩
            rw [← hp] at ER ⊢
            clear hp
            go_wp2
            refine bodyPost_ret (v := .tuple #[ratV p, .bool true]) (by simp [results, Try.results26, go_sem, s0, s1]) rfl ⟨by rw [WM.out, WB.out, ER.out], ?_⟩
            have := N6.out
            (repeat (first | with_reducible exact New.refl _ | with_reducible assumption | refine New.drewN ?_ _ | refine New.drew ?_ | refine New.alloc ?_ _ | refine New.setCell ?_ (by first | omega | (simp; omega) | (simp; done)) _ | (refine New.trans ?_ (by assumption))))
  · have hf := bool_no h
    have HW := Lib.hid hf
    have WB := Lib.hid (show wfB T a b = false by unfold wfB; rw [hf]; rfl)
    have WM := Lib.hid (wfM_no WB.out)
    clear h hf
    go_enter Try.func26, Try.ntmps26
    go_upto_region 1 with fail
    obtain ⟨v0, hv0⟩ : ∃ xx : World, xx = ((w.alloc (.cells #[.int .i64 a, .int .i64 b] 29)).alloc (.cells #[.int .i64 0, .int .i64 0] 29)) := ⟨_, rfl⟩
    rw [← hv0]
    have l0_v0 : v0.cell? ⟨w.heap.size, 0, none⟩ = some (.int .i64 a) := by rw [hv0]; simp [go_sem]
    have l1_v0 : v0.cell? ⟨w.heap.size, 1, none⟩ = some (.int .i64 b) := by rw [hv0]; simp [go_sem]
    have r0_v0 : v0.cell? ⟨w.heap.size + 1, 0, none⟩ = some (.int .i64 0) := by rw [hv0]; simp [go_sem]
    have zr0_v0 : v0.frozen? ⟨w.heap.size + 1, 0, none⟩ = false := by rw [hv0]; simp [go_sem]
    have r1_v0 : v0.cell? ⟨w.heap.size + 1, 1, none⟩ = some (.int .i64 0) := by rw [hv0]; simp [go_sem]
    have zr1_v0 : v0.frozen? ⟨w.heap.size + 1, 1, none⟩ = false := by rw [hv0]; simp [go_sem]
    have N0 := Lib.hid (show New w v0 by rw [hv0]; exact (by repeat (first | with_reducible exact New.refl _ | with_reducible assumption | refine New.drewN ?_ _ | refine New.drew ?_ | refine New.alloc ?_ _ | refine New.setCell ?_ (by first | omega | (simp; omega) | (simp; done)) _ | (refine New.trans ?_ (by assumption)))))
    have zv0 : w.heap.size + 1 < v0.heap.size := by rw [hv0]; simp
    clear hv0
    have hwf : wbB T a b = false := HW.out
    have hwn : (!wbB T a b) = true := by rw [HW.out]; rfl
    go_cut [29] (fun q W => q = .bool true ∧ New v0 W)
    case first =>
      refine wp_region_any (by kernel_rfl) ?_
      (change wpAny _ _ _ _ _ _ _ (World.drew _))
      refine wpAny_take (i := 0) (oi := ⟨some 10, _, _, _, _, _⟩) (v := ?_) rfl (by kernel_rfl) (by kernel_rfl) (by kernel_rfl) (fun _ _ _ h => h) (Or.inl ⟨by rfl, ?_⟩) ?_; rotate_left; (· (intro w_; go_simp; (try with_reducible rfl))); (try simp only [Act.put, List.setIfInBounds_toArray, List.set_cons_zero, List.set_cons_succ])
      refine wpAny_ready (rs := [1]) (by kernel_rfl) (by simp) ?_
      refine AllReady.cons (o := ⟨some 11, _, _, _, _, _⟩) rfl (fun K hK => ?_) AllReady.nil
      go_simp
      refine hK _ _ ?_; clear hK K; (try simp only [Act.put, List.setIfInBounds_toArray, List.set_cons_zero, List.set_cons_succ])
      refine wpAny_ready (rs := [2]) (by kernel_rfl) (by simp) ?_
      refine AllReady.cons (o := ⟨some 12, _, _, _, _, _⟩) rfl (fun K hK => ?_) AllReady.nil
      go_simp
      refine (leAsked_any _ _ _ _ T a b (HA.out.new (N0.out.trans (by repeat (first | with_reducible exact New.refl _ | with_reducible assumption | refine New.drewN ?_ _ | refine New.drew ?_ | refine New.alloc ?_ _ | refine New.setCell ?_ (by first | omega | (simp; omega) | (simp; done)) _ | (refine New.trans ?_ (by assumption))))))).mono ?_
      rintro e u1 ⟨rfl, n_u1⟩
      rw [HW.out]
      refine hK _ _ ?_; clear hK K; (try simp only [Act.put, List.setIfInBounds_toArray, List.set_cons_zero, List.set_cons_succ])
      refine wpAny_take (i := 3) (oi := ⟨some 13, _, _, _, _, _⟩) (v := ?_) rfl (by kernel_rfl) (by kernel_rfl) (by kernel_rfl) (fun _ _ _ h => h) (Or.inl ⟨by rfl, ?_⟩) ?_; rotate_left; (· (intro w_; go_simp; (try with_reducible rfl))); (try simp only [Act.put, List.setIfInBounds_toArray, List.set_cons_zero, List.set_cons_succ])
      refine wpAny_take (i := 4) (oi := ⟨some 14, _, _, _, _, _⟩) (v := ?_) rfl (by kernel_rfl) (by kernel_rfl) (by kernel_rfl) (fun _ _ _ h => h) (Or.inl ⟨by rfl, ?_⟩) ?_; rotate_left; (· (intro w_; go_simp; (try with_reducible rfl))); (try simp only [Act.put, List.setIfInBounds_toArray, List.set_cons_zero, List.set_cons_succ])
      refine wpAny_take (i := 5) (oi := ⟨some 15, _, _, _, _, _⟩) (v := undef) rfl (by kernel_rfl) (by kernel_rfl) (by kernel_rfl) (fun _ _ _ h => h) (Or.inr ⟨by rfl, rfl⟩) ?_; (try simp only [Act.put, List.setIfInBounds_toArray, List.set_cons_zero, List.set_cons_succ])
      refine wpAny_take (i := 6) (oi := ⟨some 16, _, _, _, _, _⟩) (v := undef) rfl (by kernel_rfl) (by kernel_rfl) (by kernel_rfl) (fun _ _ _ h => h) (Or.inr ⟨by rfl, rfl⟩) ?_; (try simp only [Act.put, List.setIfInBounds_toArray, List.set_cons_zero, List.set_cons_succ])
      refine wpAny_take (i := 7) (oi := ⟨some 17, _, _, _, _, _⟩) (v := undef) rfl (by kernel_rfl) (by kernel_rfl) (by kernel_rfl) (fun _ _ _ h => h) (Or.inr ⟨by rfl, rfl⟩) ?_; (try simp only [Act.put, List.setIfInBounds_toArray, List.set_cons_zero, List.set_cons_succ])
      refine wpAny_take (i := 8) (oi := ⟨some 18, _, _, _, _, _⟩) (v := undef) rfl (by kernel_rfl) (by kernel_rfl) (by kernel_rfl) (fun _ _ _ h => h) (Or.inr ⟨by rfl, rfl⟩) ?_; (try simp only [Act.put, List.setIfInBounds_toArray, List.set_cons_zero, List.set_cons_succ])
      refine wpAny_take (i := 9) (oi := ⟨some 19, _, _, _, _, _⟩) (v := undef) rfl (by kernel_rfl) (by kernel_rfl) (by kernel_rfl) (fun _ _ _ h => h) (Or.inr ⟨by rfl, rfl⟩) ?_; (try simp only [Act.put, List.setIfInBounds_toArray, List.set_cons_zero, List.set_cons_succ])
      refine wpAny_take (i := 10) (oi := ⟨some 20, _, _, _, _, _⟩) (v := undef) rfl (by kernel_rfl) (by kernel_rfl) (by kernel_rfl) (fun _ _ _ h => h) (Or.inr ⟨by rfl, rfl⟩) ?_; (try simp only [Act.put, List.setIfInBounds_toArray, List.set_cons_zero, List.set_cons_succ])
      refine wpAny_take (i := 11) (oi := ⟨some 21, _, _, _, _, _⟩) (v := undef) rfl (by kernel_rfl) (by kernel_rfl) (by kernel_rfl) (fun _ _ _ h => h) (Or.inr ⟨by rfl, rfl⟩) ?_; (try simp only [Act.put, List.setIfInBounds_toArray, List.set_cons_zero, List.set_cons_succ])
      refine wpAny_take (i := 12) (oi := ⟨some 22, _, _, _, _, _⟩) (v := undef) rfl (by kernel_rfl) (by kernel_rfl) (by kernel_rfl) (fun _ _ _ h => h) (Or.inr ⟨by rfl, rfl⟩) ?_; (try simp only [Act.put, List.setIfInBounds_toArray, List.set_cons_zero, List.set_cons_succ])
      refine wpAny_take (i := 13) (oi := ⟨some 23, _, _, _, _, _⟩) (v := undef) rfl (by kernel_rfl) (by kernel_rfl) (by kernel_rfl) (fun _ _ _ h => h) (Or.inr ⟨by rfl, rfl⟩) ?_; (try simp only [Act.put, List.setIfInBounds_toArray, List.set_cons_zero, List.set_cons_succ])
      refine wpAny_take (i := 14) (oi := ⟨some 24, _, _, _, _, _⟩) (v := undef) rfl (by kernel_rfl) (by kernel_rfl) (by kernel_rfl) (fun _ _ _ h => h) (Or.inr ⟨by rfl, rfl⟩) ?_; (try simp only [Act.put, List.setIfInBounds_toArray, List.set_cons_zero, List.set_cons_succ])
      refine wpAny_take (i := 15) (oi := ⟨some 25, _, _, _, _, _⟩) (v := undef) rfl (by kernel_rfl) (by kernel_rfl) (by kernel_rfl) (fun _ _ _ h => h) (Or.inr ⟨by rfl, rfl⟩) ?_; (try simp only [Act.put, List.setIfInBounds_toArray, List.set_cons_zero, List.set_cons_succ])
      refine wpAny_take (i := 16) (oi := ⟨some 26, _, _, _, _, _⟩) (v := undef) rfl (by kernel_rfl) (by kernel_rfl) (by kernel_rfl) (fun _ _ _ h => h) (Or.inr ⟨by rfl, rfl⟩) ?_; (try simp only [Act.put, List.setIfInBounds_toArray, List.set_cons_zero, List.set_cons_succ])
      refine wpAny_take (i := 17) (oi := ⟨some 27, _, _, _, _, _⟩) (v := undef) rfl (by kernel_rfl) (by kernel_rfl) (by kernel_rfl) (fun _ _ _ h => h) (Or.inr ⟨by rfl, rfl⟩) ?_; (try simp only [Act.put, List.setIfInBounds_toArray, List.set_cons_zero, List.set_cons_succ])
      refine wpAny_take (i := 18) (oi := ⟨some 28, _, _, _, _, _⟩) (v := undef) rfl (by kernel_rfl) (by kernel_rfl) (by kernel_rfl) (fun _ _ _ h => h) (Or.inr ⟨by rfl, rfl⟩) ?_; (try simp only [Act.put, List.setIfInBounds_toArray, List.set_cons_zero, List.set_cons_succ])
      refine wpAny_take (i := 19) (oi := ⟨some 29, _, _, _, _, _⟩) (v := ?_) rfl (by kernel_rfl) (by kernel_rfl) (by kernel_rfl) (fun _ _ _ h => h) (Or.inl ⟨by rfl, ?_⟩) ?_; rotate_left; (· (intro w_; go_simp; (try with_reducible rfl))); (try simp only [Act.put, List.setIfInBounds_toArray, List.set_cons_zero, List.set_cons_succ])
      refine wpAny_done (by kernel_rfl) ?_ _
      go_wp2_with fail
      go_meet
      refine ⟨by first | rfl | simp, ?_⟩
      have := n_u1
      (repeat (first | with_reducible exact New.refl _ | with_reducible assumption | refine New.drewN ?_ _ | refine New.drew ?_ | refine New.alloc ?_ _ | refine New.setCell ?_ (by first | omega | (simp; omega) | (simp; done)) _ | (refine New.trans ?_ (by assumption))))
    case rest =>
      obtain ⟨rfl, hnw⟩ := hcut
      obtain ⟨w2, rfl⟩ : ∃ u : World, u = wc := ⟨_, rfl⟩
      obtain ⟨r0, r1, y0, y1⟩ := pair_kept hnw ⟨r0_v0, r1_v0, zr0_v0, zr1_v0⟩
      have NN := Lib.hid (N0.out.trans hnw)
      go_wp2
      refine bodyPost_ret (v := .tuple #[ratV (0, 0), .bool false]) (by simp [results, Try.results26, go_sem, r0, r1]) rfl ⟨by rw [WM.out, WB.out], ?_⟩
      have := NN.out
      (repeat (first | with_reducible exact New.refl _ | with_reducible assumption | refine New.drewN ?_ _ | refine New.drew ?_ | refine New.alloc ?_ _ | refine New.setCell ?_ (by first | omega | (simp; omega) | (simp; done)) _ | (refine New.trans ?_ (by assumption))))

set_option maxRecDepth 100000 in
set_option maxHeartbeats 4000000 in
theorem iWaterForLevel_any (w : World) (aa : Option Addr) (n ca : Nat) (T : List Tk) (a b : Int) (ha : Tanks w aa n ca T) :
    Calls Try.prog 27 #[.slice aa n ca, ratV (a, b)] w fun e w' => e = .returned (.tuple #[ratV (wfM T a b), .bool (wfB T a b)]) ∧ New w w' := by
  have HN := Lib.hid ha.1
  have HA := Lib.hid ha; clear ha
  by_cases h : wbB T a b = true
  · have HW := Lib.hid h
    have OK := Lib.hid (wbB_iff.1 h)
    have HT := Lib.hid OK.out.1
    have q1 := OK.out.2.bd.n0; have q2 := OK.out.2.bd.n1; have q3 := OK.out.2.bd.d0; have q4 := OK.out.2.bd.d1
    simp only at q1 q2 q3 q4
    have hn : n ≤ 6 := by have := HN.out; have := HT.out.l6; omega
    have lb := lfK_bd HT.out T.length (Nat.le_refl _)
    obtain ⟨f, hf⟩ : ∃ f, f = lfL T := ⟨_, rfl⟩
    have lb' : 0 ≤ f ∧ f ≤ 100 := by rw [hf]; exact lb
    have EF := Lib.hid (show lfL T = f from hf.symm)
    clear lb hf
    obtain ⟨lb1, lb2⟩ := lb'
    have hm := mul_bd lb1 lb2 (show 0 ≤ b by omega) q4
    obtain ⟨hm1, hm2⟩ := hm
    have WF := Lib.hid (show wfB T a b = decide (f * b ≤ a) by unfold wfB; rw [HW.out, EF.out]; rfl)
    have bw := watL_bd HT.out
    have wr := wbR_bd HT.out OK.out.2
    have HM := Lib.hid (wbM_yes h)
    obtain ⟨P, hP⟩ : ∃ P, P = wbR T a b := ⟨_, rfl⟩
    obtain ⟨WA, hWA⟩ : ∃ x, x = watL T := ⟨_, rfl⟩
    have EA := Lib.hid (show sumL (fun t => t.2.2) T = WA from hWA.symm)
    have ER := Lib.hid (show wfR T a b = red (P.1 - WA * P.2) P.2 by rw [hP, hWA]; rfl)
    rw [← hP] at wr HM
    rw [← hWA] at bw
    clear hP hWA h
    obtain ⟨p1, p2⟩ := P
    simp only at wr ER
    obtain ⟨wr1, wr2, wr3, wr4⟩ := wr
    have hmb := mul_bd bw.1 bw.2 (show 0 ≤ p2 by omega) wr4
    obtain ⟨hmb1, hmb2⟩ := hmb
    have CW := Lib.hid (show Int.gcd WA 1 = 1 by simp)
    obtain ⟨Z, hZ⟩ : ∃ Z, Z = red (p1 - WA * p2) p2 := ⟨_, rfl⟩
    have EZ := Lib.hid (show red (p1 * 1 - WA * p2) (p2 * 1) = Z by rw [Int.mul_one, Int.mul_one]; exact hZ.symm)
    rw [← hZ] at ER
    clear hZ
    go_enter Try.func27, Try.ntmps27
    go_upto_region 1 with fail
    obtain ⟨v0, hv0⟩ : ∃ xx : World, xx = ((w.alloc (.cells #[.int .i64 a, .int .i64 b] 29)).alloc (.cells #[.int .i64 0, .int .i64 0] 29)) := ⟨_, rfl⟩
    rw [← hv0]
    have l0_v0 : v0.cell? ⟨w.heap.size, 0, none⟩ = some (.int .i64 a) := by rw [hv0]; simp [go_sem]
    have l1_v0 : v0.cell? ⟨w.heap.size, 1, none⟩ = some (.int .i64 b) := by rw [hv0]; simp [go_sem]
    have r0_v0 : v0.cell? ⟨w.heap.size + 1, 0, none⟩ = some (.int .i64 0) := by rw [hv0]; simp [go_sem]
    have zr0_v0 : v0.frozen? ⟨w.heap.size + 1, 0, none⟩ = false := by rw [hv0]; simp [go_sem]
    have r1_v0 : v0.cell? ⟨w.heap.size + 1, 1, none⟩ = some (.int .i64 0) := by rw [hv0]; simp [go_sem]
    have zr1_v0 : v0.frozen? ⟨w.heap.size + 1, 1, none⟩ = false := by rw [hv0]; simp [go_sem]
    have N0 := Lib.hid (show New w v0 by rw [hv0]; exact (by repeat (first | with_reducible exact New.refl _ | with_reducible assumption | refine New.drewN ?_ _ | refine New.drew ?_ | refine New.alloc ?_ _ | refine New.setCell ?_ (by first | omega | (simp; omega) | (simp; done)) _ | (refine New.trans ?_ (by assumption)))))
    have zv0 : w.heap.size + 1 < v0.heap.size := by rw [hv0]; simp
    clear hv0
    go_wp2_with fail
    refine (iWaterBelow_any _ _ _ _ T a b (HA.out.new N0.out)).mono ?_
    rintro e w1 ⟨rfl, n1⟩
    rw [HM.out, HW.out]
    have l0 := n1.cell l0_v0
    have l1 := n1.cell l1_v0
    obtain ⟨s0, s1, y0, y1⟩ := pair_kept n1 ⟨r0_v0, r1_v0, zr0_v0, zr1_v0⟩
    have N1 := Lib.hid (N0.out.trans n1)
    have zw1 := n1.size
    clear n1 l0_v0 l1_v0 r0_v0 r1_v0 zr0_v0 zr1_v0
    go_upto_region 2 with fail
    obtain ⟨v1, hv1⟩ : ∃ xx : World, xx = w1.alloc (.cells #[.int .i64 p1, .int .i64 p2] 29) := ⟨_, rfl⟩
    rw [← hv1]
    have t0_v1 : v1.cell? ⟨w1.heap.size, 0, none⟩ = some (.int .i64 p1) := by rw [hv1]; simp [go_sem]
    have t1_v1 : v1.cell? ⟨w1.heap.size, 1, none⟩ = some (.int .i64 p2) := by rw [hv1]; simp [go_sem]
    have K1 := Lib.hid (show New w1 v1 by rw [hv1]; exact (by repeat (first | with_reducible exact New.refl _ | with_reducible assumption | refine New.drewN ?_ _ | refine New.drew ?_ | refine New.alloc ?_ _ | refine New.setCell ?_ (by first | omega | (simp; omega) | (simp; done)) _ | (refine New.trans ?_ (by assumption)))))
    clear hv1
    have l0_v1 := K1.out.cell l0
    have l1_v1 := K1.out.cell l1
    obtain ⟨r0_v1, r1_v1, zr0_v1, zr1_v1⟩ := pair_kept K1.out ⟨s0, s1, y0, y1⟩
    clear l0 l1 s0 s1 y0 y1
    have NB := Lib.hid (N1.out.trans K1.out)
    have zt : w.heap.size + 1 < w1.heap.size := by omega
    go_region_held3 (fun w' => w'.cell? ⟨w.heap.size, 0, none⟩ = some (.int .i64 a) ∧ w'.cell? ⟨w.heap.size, 1, none⟩ = some (.int .i64 b) ∧ w'.cell? ⟨w1.heap.size, 0, none⟩ = some (.int .i64 p1) ∧ w'.cell? ⟨w1.heap.size, 1, none⟩ = some (.int .i64 p2))
      (first | with_reducible exact ⟨l0_v1, l1_v1, t0_v1, t1_v1⟩ | with_reducible exact ⟨l0_u1, l1_u1, t0_u1, t1_u1⟩ | with_reducible exact ⟨l0_u2, l1_u2, t0_u2, t1_u2⟩ | with_reducible exact ⟨l0_u3, l1_u3, t0_u3, t1_u3⟩ | exact ⟨l0_v1, l1_v1, t0_v1, t1_v1⟩ | fail)
      (first
        | (go_at_call 61; refine (leastFloor_any _ _ _ _ T (HA.out.new (NB.out.trans (by repeat (first | with_reducible exact New.refl _ | with_reducible assumption | refine New.drewN ?_ _ | refine New.drew ?_ | refine New.alloc ?_ _ | refine New.setCell ?_ (by first | omega | (simp; omega) | (simp; done)) _ | (refine New.trans ?_ (by assumption)))))) HT.out).mono ?_; rintro e u1 ⟨rfl, n_u1⟩; (try replace n_u1 := New.undrew n_u1); have l0_u1 : u1.cell? ⟨w.heap.size, 0, none⟩ = some (.int .i64 a) := n_u1.cell l0_v1; have l1_u1 : u1.cell? ⟨w.heap.size, 1, none⟩ = some (.int .i64 b) := n_u1.cell l1_v1; have r0_u1 : u1.cell? ⟨w.heap.size + 1, 0, none⟩ = some (.int .i64 0) := n_u1.cell r0_v1; have zr0_u1 : u1.frozen? ⟨w.heap.size + 1, 0, none⟩ = false := n_u1.frz r0_v1 zr0_v1; have r1_u1 : u1.cell? ⟨w.heap.size + 1, 1, none⟩ = some (.int .i64 0) := n_u1.cell r1_v1; have zr1_u1 : u1.frozen? ⟨w.heap.size + 1, 1, none⟩ = false := n_u1.frz r1_v1 zr1_v1; have t0_u1 : u1.cell? ⟨w1.heap.size, 0, none⟩ = some (.int .i64 p1) := n_u1.cell t0_v1; have t1_u1 : u1.cell? ⟨w1.heap.size, 1, none⟩ = some (.int .i64 p2) := n_u1.cell t1_v1; rw [EF.out]; skip)
        | (go_at_call 60; refine (wholeRatio_any _ f).mono ?_; rintro e u2 ⟨rfl, n_u2⟩; (try replace n_u2 := New.undrew n_u2); have l0_u2 : u2.cell? ⟨w.heap.size, 0, none⟩ = some (.int .i64 a) := n_u2.cell l0_u1; have l1_u2 : u2.cell? ⟨w.heap.size, 1, none⟩ = some (.int .i64 b) := n_u2.cell l1_u1; have r0_u2 : u2.cell? ⟨w.heap.size + 1, 0, none⟩ = some (.int .i64 0) := n_u2.cell r0_u1; have zr0_u2 : u2.frozen? ⟨w.heap.size + 1, 0, none⟩ = false := n_u2.frz r0_u1 zr0_u1; have r1_u2 : u2.cell? ⟨w.heap.size + 1, 1, none⟩ = some (.int .i64 0) := n_u2.cell r1_u1; have zr1_u2 : u2.frozen? ⟨w.heap.size + 1, 1, none⟩ = false := n_u2.frz r1_u1 zr1_u1; have t0_u2 : u2.cell? ⟨w1.heap.size, 0, none⟩ = some (.int .i64 p1) := n_u2.cell t0_u1; have t1_u2 : u2.cell? ⟨w1.heap.size, 1, none⟩ = some (.int .i64 p2) := n_u2.cell t1_u1;  skip)
        | (go_at_call 59; refine (isLess_any _ a b f 1 (by omega) (by omega) (by omega) (by omega)).mono ?_; rintro e u3 ⟨rfl, n_u3⟩; (try replace n_u3 := New.undrew n_u3); have l0_u3 : u3.cell? ⟨w.heap.size, 0, none⟩ = some (.int .i64 a) := n_u3.cell l0_u2; have l1_u3 : u3.cell? ⟨w.heap.size, 1, none⟩ = some (.int .i64 b) := n_u3.cell l1_u2; have r0_u3 : u3.cell? ⟨w.heap.size + 1, 0, none⟩ = some (.int .i64 0) := n_u3.cell r0_u2; have zr0_u3 : u3.frozen? ⟨w.heap.size + 1, 0, none⟩ = false := n_u3.frz r0_u2 zr0_u2; have r1_u3 : u3.cell? ⟨w.heap.size + 1, 1, none⟩ = some (.int .i64 0) := n_u3.cell r1_u2; have zr1_u3 : u3.frozen? ⟨w.heap.size + 1, 1, none⟩ = false := n_u3.frz r1_u2 zr1_u2; have t0_u3 : u3.cell? ⟨w1.heap.size, 0, none⟩ = some (.int .i64 p1) := n_u3.cell t0_u2; have t1_u3 : u3.cell? ⟨w1.heap.size, 1, none⟩ = some (.int .i64 p2) := n_u3.cell t1_u2;  skip))
    have K_u1 := Lib.hid (show New v1 u1 from n_u1); clear n_u1
    have K_u2 := Lib.hid (show New u1 u2 from n_u2); clear n_u2
    have K_u3 := Lib.hid (show New u2 u3 from n_u3); clear n_u3
    have NC := Lib.hid ((((NB.out.trans K_u1.out).trans K_u2.out).trans K_u3.out))
    have zr : w.heap.size + 1 < u3.heap.size := World.block_lt_of_cell? _ _ r0_u3
    clear l0_v1 l0_u1 l0_u2 l1_v1 l1_u1 l1_u2 r0_v1 r0_u1 r0_u2 r1_v1 r1_u1 r1_u2 t0_v1 t0_u1 t0_u2 t1_v1 t1_u1 t1_u2
    generalize hbb : (decide (a < f * b)) = bb
    cases bb
    · have c' : f * b ≤ a := by have := of_decide_eq_false hbb; omega
      clear hbb
      have WB := Lib.hid (show wfB T a b = true by rw [WF.out]; exact decide_eq_true (by omega))
      have WM := Lib.hid (wfM_yes WB.out)
      go_upto_region 4 with fail
      go_region_held3 (fun w' => w'.cell? ⟨w1.heap.size, 0, none⟩ = some (.int .i64 p1) ∧ w'.cell? ⟨w1.heap.size, 1, none⟩ = some (.int .i64 p2))
        (first | with_reducible exact ⟨t0_u3, t1_u3⟩ | with_reducible exact ⟨t0_u4, t1_u4⟩ | with_reducible exact ⟨t0_u5, t1_u5⟩ | with_reducible exact ⟨t0_u6, t1_u6⟩ | with_reducible exact ⟨World.cell_set (World.cell_set (t0_u6) (by simp; try omega)) (by simp; try omega), World.cell_set (World.cell_set (t1_u6) (by simp; try omega)) (by simp; try omega)⟩ | exact ⟨t0_u3, t1_u3⟩ | fail)
        (first
          | (go_at_call 53; refine (sumInt_any _ 63 #[] (fun t => t.2.2) _ _ _ T (HA.out.new (NC.out.trans (by repeat (first | with_reducible exact New.refl _ | with_reducible assumption | refine New.drewN ?_ _ | refine New.drew ?_ | refine New.alloc ?_ _ | refine New.setCell ?_ (by first | omega | (simp; omega) | (simp; done)) _ | (refine New.trans ?_ (by assumption)))))) hn (fun t ht => by have := (HT.out.all t ht).w1; have := (HT.out.all t ht).w2; exact ⟨by omega, by omega⟩) (fun v t _ _ => water_any v _ _ _) water_enters).mono ?_; rintro e u4 ⟨rfl, n_u4⟩; (try replace n_u4 := New.undrew n_u4); have l0_u4 : u4.cell? ⟨w.heap.size, 0, none⟩ = some (.int .i64 a) := n_u4.cell l0_u3; have l1_u4 : u4.cell? ⟨w.heap.size, 1, none⟩ = some (.int .i64 b) := n_u4.cell l1_u3; have r0_u4 : u4.cell? ⟨w.heap.size + 1, 0, none⟩ = some (.int .i64 0) := n_u4.cell r0_u3; have zr0_u4 : u4.frozen? ⟨w.heap.size + 1, 0, none⟩ = false := n_u4.frz r0_u3 zr0_u3; have r1_u4 : u4.cell? ⟨w.heap.size + 1, 1, none⟩ = some (.int .i64 0) := n_u4.cell r1_u3; have zr1_u4 : u4.frozen? ⟨w.heap.size + 1, 1, none⟩ = false := n_u4.frz r1_u3 zr1_u3; have t0_u4 : u4.cell? ⟨w1.heap.size, 0, none⟩ = some (.int .i64 p1) := n_u4.cell t0_u3; have t1_u4 : u4.cell? ⟨w1.heap.size, 1, none⟩ = some (.int .i64 p2) := n_u4.cell t1_u3; rw [EA.out]; skip)
          | (go_at_call 60; refine (wholeRatio_any _ WA).mono ?_; rintro e u5 ⟨rfl, n_u5⟩; (try replace n_u5 := New.undrew n_u5); have l0_u5 : u5.cell? ⟨w.heap.size, 0, none⟩ = some (.int .i64 a) := n_u5.cell l0_u4; have l1_u5 : u5.cell? ⟨w.heap.size, 1, none⟩ = some (.int .i64 b) := n_u5.cell l1_u4; have r0_u5 : u5.cell? ⟨w.heap.size + 1, 0, none⟩ = some (.int .i64 0) := n_u5.cell r0_u4; have zr0_u5 : u5.frozen? ⟨w.heap.size + 1, 0, none⟩ = false := n_u5.frz r0_u4 zr0_u4; have r1_u5 : u5.cell? ⟨w.heap.size + 1, 1, none⟩ = some (.int .i64 0) := n_u5.cell r1_u4; have zr1_u5 : u5.frozen? ⟨w.heap.size + 1, 1, none⟩ = false := n_u5.frz r1_u4 zr1_u4; have t0_u5 : u5.cell? ⟨w1.heap.size, 0, none⟩ = some (.int .i64 p1) := n_u5.cell t0_u4; have t1_u5 : u5.cell? ⟨w1.heap.size, 1, none⟩ = some (.int .i64 p2) := n_u5.cell t1_u4;  skip)
          | (go_at_call 62; refine (minus_any _ p1 p2 WA 1 (by omega) (by omega) CW.out (by omega) (by omega) (by omega) (by omega) (by omega) (by omega) (by omega) (by omega)).mono ?_; rintro e u6 ⟨rfl, n_u6⟩; (try replace n_u6 := New.undrew n_u6); have l0_u6 : u6.cell? ⟨w.heap.size, 0, none⟩ = some (.int .i64 a) := n_u6.cell l0_u5; have l1_u6 : u6.cell? ⟨w.heap.size, 1, none⟩ = some (.int .i64 b) := n_u6.cell l1_u5; have r0_u6 : u6.cell? ⟨w.heap.size + 1, 0, none⟩ = some (.int .i64 0) := n_u6.cell r0_u5; have zr0_u6 : u6.frozen? ⟨w.heap.size + 1, 0, none⟩ = false := n_u6.frz r0_u5 zr0_u5; have r1_u6 : u6.cell? ⟨w.heap.size + 1, 1, none⟩ = some (.int .i64 0) := n_u6.cell r1_u5; have zr1_u6 : u6.frozen? ⟨w.heap.size + 1, 1, none⟩ = false := n_u6.frz r1_u5 zr1_u5; have t0_u6 : u6.cell? ⟨w1.heap.size, 0, none⟩ = some (.int .i64 p1) := n_u6.cell t0_u5; have t1_u6 : u6.cell? ⟨w1.heap.size, 1, none⟩ = some (.int .i64 p2) := n_u6.cell t1_u5; rw [EZ.out]; skip))
      have K_u4 := Lib.hid (show New u3 u4 from n_u4); clear n_u4
      have K_u5 := Lib.hid (show New u4 u5 from n_u5); clear n_u5
      have K_u6 := Lib.hid (show New u5 u6 from n_u6); clear n_u6
      have NE := Lib.hid ((((NC.out.trans K_u4.out).trans K_u5.out).trans K_u6.out))
      go_wp2
      refine bodyPost_ret (v := .tuple #[ratV Z, .bool true]) (by simp [results, Try.results27, go_sem, r0_u6, r1_u6]) rfl ⟨by rw [WM.out, WB.out, ER.out], ?_⟩
      have := NE.out
      (repeat (first | with_reducible exact New.refl _ | with_reducible assumption | refine New.drewN ?_ _ | refine New.drew ?_ | refine New.alloc ?_ _ | refine New.setCell ?_ (by first | omega | (simp; omega) | (simp; done)) _ | (refine New.trans ?_ (by assumption))))
    · have c' : a < f * b := by have := of_decide_eq_true hbb; omega
      clear hbb
      have WB := Lib.hid (show wfB T a b = false by rw [WF.out]; exact decide_eq_false (by omega))
      have WM := Lib.hid (wfM_no WB.out)
      go_wp2
      refine bodyPost_ret (v := .tuple #[ratV (0, 0), .bool false]) (by simp [results, Try.results27, go_sem, r0_u3, r1_u3]) rfl ⟨by rw [WM.out, WB.out], ?_⟩
      have := NC.out
      (repeat (first | with_reducible exact New.refl _ | with_reducible assumption | refine New.drewN ?_ _ | refine New.drew ?_ | refine New.alloc ?_ _ | refine New.setCell ?_ (by first | omega | (simp; omega) | (simp; done)) _ | (refine New.trans ?_ (by assumption))))
  · have hf := bool_no h
    have HW := Lib.hid hf
    have HM := Lib.hid (wbM_no hf)
    have WB := Lib.hid (show wfB T a b = false by unfold wfB; rw [hf]; rfl)
    have WM := Lib.hid (wfM_no WB.out)
    clear h hf
    go_enter Try.func27, Try.ntmps27
    go_upto_region 1 with fail
    obtain ⟨v0, hv0⟩ : ∃ xx : World, xx = ((w.alloc (.cells #[.int .i64 a, .int .i64 b] 29)).alloc (.cells #[.int .i64 0, .int .i64 0] 29)) := ⟨_, rfl⟩
    rw [← hv0]
    have l0_v0 : v0.cell? ⟨w.heap.size, 0, none⟩ = some (.int .i64 a) := by rw [hv0]; simp [go_sem]
    have l1_v0 : v0.cell? ⟨w.heap.size, 1, none⟩ = some (.int .i64 b) := by rw [hv0]; simp [go_sem]
    have r0_v0 : v0.cell? ⟨w.heap.size + 1, 0, none⟩ = some (.int .i64 0) := by rw [hv0]; simp [go_sem]
    have zr0_v0 : v0.frozen? ⟨w.heap.size + 1, 0, none⟩ = false := by rw [hv0]; simp [go_sem]
    have r1_v0 : v0.cell? ⟨w.heap.size + 1, 1, none⟩ = some (.int .i64 0) := by rw [hv0]; simp [go_sem]
    have zr1_v0 : v0.frozen? ⟨w.heap.size + 1, 1, none⟩ = false := by rw [hv0]; simp [go_sem]
    have N0 := Lib.hid (show New w v0 by rw [hv0]; exact (by repeat (first | with_reducible exact New.refl _ | with_reducible assumption | refine New.drewN ?_ _ | refine New.drew ?_ | refine New.alloc ?_ _ | refine New.setCell ?_ (by first | omega | (simp; omega) | (simp; done)) _ | (refine New.trans ?_ (by assumption)))))
    have zv0 : w.heap.size + 1 < v0.heap.size := by rw [hv0]; simp
    clear hv0
    go_wp2_with fail
    refine (iWaterBelow_any _ _ _ _ T a b (HA.out.new N0.out)).mono ?_
    rintro e w1 ⟨rfl, n1⟩
    rw [HM.out, HW.out]
    obtain ⟨s0, s1, y0, y1⟩ := pair_kept n1 ⟨r0_v0, r1_v0, zr0_v0, zr1_v0⟩
    have N1 := Lib.hid (N0.out.trans n1)
    have zr : w.heap.size + 1 < w1.heap.size := World.block_lt_of_cell? _ _ s0
    clear n1 l0_v0 l1_v0 r0_v0 r1_v0 zr0_v0 zr1_v0
    go_wp2
    go_quiet (fail)
    go_wp2
    refine bodyPost_ret (v := .tuple #[ratV (0, 0), .bool false]) (by simp [results, Try.results27, go_sem, s0, s1, zr]) rfl ⟨by rw [WM.out, WB.out], ?_⟩
    have := N1.out
    (repeat (first | with_reducible exact New.refl _ | with_reducible assumption | refine New.drewN ?_ _ | refine New.drew ?_ | refine New.alloc ?_ _ | refine New.setCell ?_ (by first | omega | (simp; omega) | (simp; done)) _ | (refine New.trans ?_ (by assumption))))
end Go.Proofs.Ytklfelbolblgfaa
