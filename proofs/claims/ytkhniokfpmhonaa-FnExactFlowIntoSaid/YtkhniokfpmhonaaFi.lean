/- FlowInto: the model's and the program's. -/
import Derived.Test.YtkhniokfpmhonaaWa
import Derived.Test.YtkhniokfpmhonaaCutB
import Derived.StillTailTactics
namespace Go.Proofs.Ytkhniokfpmhonaa
open Go.RowKit Go.IntWalk

/-- What flows into a tank. -/
noncomputable def fiR (T : List Tk) (i : Nat) : Int × Int := red ((upC T (T[i]?.getD (0, 0, 0))).1 - (T[i]?.getD (0, 0, 0)).2.2 * (upC T (T[i]?.getD (0, 0, 0))).2) (upC T (T[i]?.getD (0, 0, 0))).2
noncomputable def fiB (T : List Tk) (x : Int) : Bool := tksB T && inB 0 ((T.length : Int) - 1) x
noncomputable def fiM (T : List Tk) (x : Int) : Int × Int := if fiB T x then fiR T x.toNat else (0, 0)
theorem fiM_yes {T : List Tk} {x : Int} (h : fiB T x = true) : fiM T x = fiR T x.toNat := by unfold fiM; rw [if_pos h]
theorem fiM_no {T : List Tk} {x : Int} (h : fiB T x = false) : fiM T x = (0, 0) := by unfold fiM; rw [h]; rfl
theorem upC_bd {T : List Tk} (h : TksOk T) {t : Tk} (ht : TkOk t) : 0 ≤ (upC T t).1 ∧ (upC T t).1 ≤ 50000000 ∧ 1 ≤ (upC T t).2 ∧ (upC T t).2 ≤ 1000 ∧ Int.gcd (upC T t).1 (upC T t).2 = 1 := by
  have hl := com_lvbd h
  have hb := upTo_bd ht hl
  have d0 := hl.d0
  have d1 := hl.d1
  have hr := red_le (n := upTo (comR T).1 (comR T).2 t) (show 0 < (comR T).2 by omega)
  have hp := red_pos (n := upTo (comR T).1 (comR T).2 t) (show 0 < (comR T).2 by omega)
  have hc := red_cop (n := upTo (comR T).1 (comR T).2 t) (show 0 < (comR T).2 by omega)
  have h1 := hr.2.1 hb.1
  unfold upC upR
  refine ⟨by omega, by omega, by omega, by omega, hc⟩

set_option maxRecDepth 100000 in
set_option maxHeartbeats 4000000 in
theorem sFlowInto_any (w : World) (aa : Option Addr) (n ca : Nat) (T : List Tk) (x : Int) (ha : Tanks w aa n ca T) :
    Calls Try.prog 28 #[.slice aa n ca, .int .i64 x] w fun e w' => e = .returned (.tuple #[ratV (fiM T x), .bool (fiB T x)]) ∧ New w w' := by
  have HN := Lib.hid ha.1
  have hm := ha.2.2.1
  have HA := Lib.hid ha; clear ha
  by_cases h : tksB T = true
  · have HB := Lib.hid h
    have HT := Lib.hid (tksB_iff.1 h); clear h
    have hn : n ≤ 6 := by have := HN.out; have := HT.out.l6; omega
    by_cases hx : inB 0 ((n : Int) - 1) x = true
    · have hx' := inB_iff.1 hx
      obtain ⟨k, rfl⟩ : ∃ k : Nat, x = (k : Int) := ⟨x.toNat, by omega⟩
      have hk : k < n := by omega
      have HX := Lib.hid hx
      have FB := Lib.hid (show fiB T (k : Int) = true by unfold fiB; rw [HB.out, ← HN.out, HX.out]; rfl)
      have FM := Lib.hid (fiM_yes FB.out)
      have KC := Lib.hid (show k < T.length by have := HN.out; omega)
      clear hx hx'
      obtain ⟨b, o, rfl, g0, g1, g2⟩ := HA.out.2.2.2.1 k hk
      obtain ⟨a, ea⟩ : ∃ a, a = (T[k]?.getD (0, 0, 0)).1 := ⟨_, rfl⟩
      obtain ⟨f, ef⟩ : ∃ f, f = (T[k]?.getD (0, 0, 0)).2.1 := ⟨_, rfl⟩
      obtain ⟨u, eu⟩ : ∃ u, u = (T[k]?.getD (0, 0, 0)).2.2 := ⟨_, rfl⟩
      rw [← ea] at g0
      rw [← ef] at g1
      rw [← eu] at g2
      have ET := Lib.hid (show T[k]?.getD (0, 0, 0) = (a, f, u) by rw [ea, ef, eu]); clear ea ef eu
      have KO := Lib.hid (show TkOk (a, f, u) by rw [← ET.out]; exact HT.out.all _ (mem_get KC.out))
      have hu1 := KO.out.w1; have hu2 := KO.out.w2
      simp only at hu1 hu2
      have hbt := World.block_lt_of_cell? _ _ g0
      have HL := Lib.hid (com_lvbd HT.out)
      have UB := upC_bd HT.out KO.out
      obtain ⟨p, hp⟩ : ∃ p, p = comR T := ⟨_, rfl⟩
      have EP := Lib.hid hp
      rw [← hp] at HL
      have EU := Lib.hid (show upC T (a, f, u) = upR p.1 p.2 (a, f, u) by rw [hp]; rfl)
      clear hp
      obtain ⟨p1, p2⟩ := p
      obtain ⟨x, hx⟩ : ∃ x, x = upR p1 p2 (a, f, u) := ⟨_, rfl⟩
      have EX := Lib.hid (show upC T (a, f, u) = x by rw [EU.out, hx])
      have EY := Lib.hid (show red (upTo p1 p2 (a, f, u)) p2 = x from hx.symm)
      have EZ := Lib.hid (show upR p1 p2 (a, f, u) = x from hx.symm)
      clear hx EU
      rw [EX.out] at UB
      obtain ⟨x1, x2⟩ := x
      simp only at UB
      obtain ⟨ub1, ub2, ub3, ub4, ub5⟩ := UB
      have UC := Lib.hid ub5; clear ub5
      have hmb := mul_bd hu1 hu2 (show 0 ≤ x2 by omega) ub4
      obtain ⟨hmb1, hmb2⟩ := hmb
      have FR := Lib.hid (show fiM T (k : Int) = red (x1 - u * x2) x2 by rw [FM.out]; unfold fiR; rw [Int.toNat_natCast, ET.out, EX.out])
      clear FM
      go_enter Try.func28, Try.ntmps28
      go_wp2_with fail
      refine (leTanks_any _ _ _ _ T (HA.out.new (by repeat (first | with_reducible exact New.refl _ | with_reducible assumption | refine New.drewN ?_ _ | refine New.drew ?_ | refine New.alloc ?_ _ | refine New.setCell ?_ (by first | omega | (simp; omega) | (simp; done)) _ | (refine New.trans ?_ (by assumption)))))).mono ?_
      rintro e w1 ⟨rfl, n1⟩
      rw [HB.out]
      have cc := pair_kept (p := ⟨w.heap.size, 0, none⟩) (q := ⟨w.heap.size, 1, none⟩) (x := .int .i64 0) (y := .int .i64 0) n1 (by simp [go_sem])
      have N1 := Lib.hid (show New w w1 from New.trans (by repeat (first | with_reducible exact New.refl _ | with_reducible assumption | refine New.drewN ?_ _ | refine New.drew ?_ | refine New.alloc ?_ _ | refine New.setCell ?_ (by first | omega | (simp; omega) | (simp; done)) _ | (refine New.trans ?_ (by assumption)))) n1); clear n1
      go_wp2_with fail
      refine (l1In_any _ _ _ _).mono ?_
      rintro e w9 ⟨rfl, rfl⟩
      rw [HX.out]
      go_upto_region 3 with fail
      obtain ⟨r0_v0, r1_v0, zr0_v0, zr1_v0⟩ := cc
      have a0_v0 := N1.out.cell g0
      have a1_v0 := N1.out.cell g1
      have a2_v0 := N1.out.cell g2
      have zv0 : w.heap.size < w1.heap.size := World.block_lt_of_cell? _ _ r0_v0
      clear g0 g1 g2
      obtain ⟨v0, hv0⟩ : ∃ u : World, u = w1 := ⟨_, rfl⟩
      rw [← hv0] at N1 r0_v0 r1_v0 zr0_v0 zr1_v0 a0_v0 a1_v0 a2_v0 zv0 ⊢
      clear hv0 w1
      go_cut [6] (fun p W => CutBox v0 (.int .i64 x1) (.int .i64 x2) p W)
      case first =>
        go_region_held3 (fun w' => w'.cell? ⟨b, o + k * 3, none⟩ = some (.int .i64 a) ∧ w'.cell? ⟨b, o + k * 3 + 1, none⟩ = some (.int .i64 f) ∧ w'.cell? ⟨b, o + k * 3 + 2, none⟩ = some (.int .i64 u))
          (first | with_reducible exact ⟨a0_v0, a1_v0, a2_v0⟩ | with_reducible exact ⟨World.cell_kept a0_v0, World.cell_kept a1_v0, World.cell_kept a2_v0⟩ | with_reducible exact ⟨a0_u1, a1_u1, a2_u1⟩ | with_reducible exact ⟨World.cell_kept a0_u1, World.cell_kept a1_u1, World.cell_kept a2_u1⟩ | with_reducible exact ⟨World.cell_set (World.cell_set a0_u1 (by simp; try omega)) (by simp; try omega), World.cell_set (World.cell_set a1_u1 (by simp; try omega)) (by simp; try omega), World.cell_set (World.cell_set a2_u1 (by simp; try omega)) (by simp; try omega)⟩ | with_reducible exact ⟨a0_u2, a1_u2, a2_u2⟩ | with_reducible exact ⟨World.cell_kept a0_u2, World.cell_kept a1_u2, World.cell_kept a2_u2⟩ | with_reducible exact ⟨World.cell_set (World.cell_set a0_u2 (by simp; try omega)) (by simp; try omega), World.cell_set (World.cell_set a1_u2 (by simp; try omega)) (by simp; try omega), World.cell_set (World.cell_set a2_u2 (by simp; try omega)) (by simp; try omega)⟩ | exact ⟨a0_v0, a1_v0, a2_v0⟩ | exact ⟨World.cell_kept a0_v0, World.cell_kept a1_v0, World.cell_kept a2_v0⟩ | fail)
          (first
            | (go_at_call 44; refine (leCommon_any _ _ _ _ T (HA.out.new (N1.out.trans (by repeat (first | with_reducible exact New.refl _ | with_reducible assumption | refine New.drewN ?_ _ | refine New.drew ?_ | refine New.alloc ?_ _ | refine New.setCell ?_ (by first | omega | (simp; omega) | (simp; done)) _ | (refine New.trans ?_ (by assumption)))))) HT.out).mono ?_; rintro e u1 ⟨rfl, n_u1⟩; (try replace n_u1 := New.undrew n_u1); have a0_u1 : u1.cell? ⟨b, o + k * 3, none⟩ = some (.int .i64 a) := n_u1.cell (by first | exact a0_v0 | exact World.cell_kept a0_v0); have a1_u1 : u1.cell? ⟨b, o + k * 3 + 1, none⟩ = some (.int .i64 f) := n_u1.cell (by first | exact a1_v0 | exact World.cell_kept a1_v0); have a2_u1 : u1.cell? ⟨b, o + k * 3 + 2, none⟩ = some (.int .i64 u) := n_u1.cell (by first | exact a2_v0 | exact World.cell_kept a2_v0); have e_u1 := n_u1.size; (try simp only [World.size_alloc] at e_u1); (try (have kk := New.box n_u1; obtain ⟨j0, j1, j2, j3, j4⟩ := kk)); (try (have kk := New.boxed n_u1 j0 j1 j2 j3; clear j0 j1 j2 j3; obtain ⟨j0, j1, j2, j3⟩ := kk)); rw [← EP.out]; skip)
            | (go_at_call 48; refine (leUp_any _ a f u p1 p2 KO.out HL.out).mono ?_; rintro e u2 ⟨rfl, n_u2⟩; (try replace n_u2 := New.undrew n_u2); have a0_u2 : u2.cell? ⟨b, o + k * 3, none⟩ = some (.int .i64 a) := n_u2.cell (by first | exact a0_u1 | exact World.cell_kept a0_u1); have a1_u2 : u2.cell? ⟨b, o + k * 3 + 1, none⟩ = some (.int .i64 f) := n_u2.cell (by first | exact a1_u1 | exact World.cell_kept a1_u1); have a2_u2 : u2.cell? ⟨b, o + k * 3 + 2, none⟩ = some (.int .i64 u) := n_u2.cell (by first | exact a2_u1 | exact World.cell_kept a2_u1); have e_u2 := n_u2.size; (try simp only [World.size_alloc] at e_u2); (try (have kk := New.box n_u2; obtain ⟨j0, j1, j2, j3, j4⟩ := kk)); (try (have kk := New.boxed n_u2 j0 j1 j2 j3; clear j0 j1 j2 j3; obtain ⟨j0, j1, j2, j3⟩ := kk)); rw [EZ.out]; skip))
        all_goals (go_wp2_with fail; go_meet)
        all_goals
          have m0 : New v0 u1 := by first | exact n_u1 | exact ((New.refl _).alloc _).trans n_u1
          have y0 := n_u1.size
          (try simp only [World.size_alloc] at y0)
          have q0 := m0.size
          have m1 : New u1 u2 := by first | exact n_u2 | exact ((New.refl _).alloc _).trans n_u2
          have y1 := n_u2.size
          (try simp only [World.size_alloc] at y1)
          have q1 := m1.size
          first
            | exact CutBox.behind (m0.trans m1)
            | exact CutBox.put (m0.trans m1) (by omega) (by omega) j0 j1
      case rest =>
        obtain ⟨B3, rfl, hn, hlo, hhi, hc0, hc1⟩ := hcut
        obtain ⟨u3, rfl⟩ : ∃ u : World, u = wc := ⟨_, rfl⟩
        have a0_u3 : u3.cell? ⟨b, o + k * 3, none⟩ = some (.int .i64 a) := hn.cell a0_v0
        have a1_u3 : u3.cell? ⟨b, o + k * 3 + 1, none⟩ = some (.int .i64 f) := hn.cell a1_v0
        have a2_u3 : u3.cell? ⟨b, o + k * 3 + 2, none⟩ = some (.int .i64 u) := hn.cell a2_v0
        have r0_u3 : u3.cell? ⟨w.heap.size, 0, none⟩ = some (.int .i64 0) := hn.cell r0_v0
        have zr0_u3 : u3.frozen? ⟨w.heap.size, 0, none⟩ = false := hn.frz r0_v0 zr0_v0
        have r1_u3 : u3.cell? ⟨w.heap.size, 1, none⟩ = some (.int .i64 0) := hn.cell r1_v0
        have zr1_u3 : u3.frozen? ⟨w.heap.size, 1, none⟩ = false := hn.frz r1_v0 zr1_v0
        have c3_0_u3 := hc0
        have c3_1_u3 := hc1
        have K_u3 := Lib.hid (show New v0 u3 from hn)
        have z_u3 := hn.size
        clear hc0 hc1 hn
        have zB : w.heap.size < B3 := by have := z_u3; omega
        go_upto_region 4 with fail
        go_still_tail 13, (by kernel_rfl)
        change wpList _ _ _ _ _ u3.drew
        obtain ⟨v1, hv1⟩ : ∃ v : World, v = u3.drew := ⟨_, rfl⟩
        rw [← hv1]
        have NV := Lib.hid (show New u3 v1 by rw [hv1]; exact (New.refl _).drew)
        clear hv1
        have r0_u4 := NV.out.cell r0_u3
        have zr0_u4 := NV.out.frz r0_u3 zr0_u3
        have r1_u4 := NV.out.cell r1_u3
        have zr1_u4 := NV.out.frz r1_u3 zr1_u3
        go_wp2_with fail
        refine (leRatio_any _ (x1 - u * x2) x2 (by omega) (by omega) (by omega) (by omega)).mono ?_
        rintro e u5 ⟨rfl, n5⟩
        obtain ⟨r0_u5, r1_u5, zr0_u5, zr1_u5⟩ := pair_kept n5 ⟨r0_u4, r1_u4, zr0_u4, zr1_u4⟩
        have K_u5 := Lib.hid (NV.out.trans n5); clear n5
        obtain ⟨p, hp⟩ : ∃ p, p = red (x1 - u * x2) x2 := ⟨_, rfl⟩
        rw [← hp] at FR ⊢
        clear hp
        go_wp2
        refine bodyPost_ret (v := .tuple #[ratV p, .bool true]) (by simp [results, Try.results28, go_sem, r0_u5, r1_u5]) rfl ⟨by rw [FR.out, FB.out], ?_⟩
        have := ((N1.out.trans K_u3.out).trans K_u5.out)
        (repeat (first | with_reducible exact New.refl _ | with_reducible assumption | refine New.drewN ?_ _ | refine New.drew ?_ | refine New.alloc ?_ _ | refine New.setCell ?_ (by first | omega | (simp; omega) | (simp; done)) _ | (refine New.trans ?_ (by assumption))))
    · have hx := bool_no hx
      have HX := Lib.hid hx
      have FB := Lib.hid (show fiB T x = false by unfold fiB; rw [HB.out, ← HN.out, HX.out]; rfl)
      have FM := Lib.hid (fiM_no FB.out)
      have hx2 := inB_false.1 hx
      clear hx
      go_enter Try.func28, Try.ntmps28
      go_wp2_with fail
      refine (leTanks_any _ _ _ _ T (HA.out.new (by repeat (first | with_reducible exact New.refl _ | with_reducible assumption | refine New.drewN ?_ _ | refine New.drew ?_ | refine New.alloc ?_ _ | refine New.setCell ?_ (by first | omega | (simp; omega) | (simp; done)) _ | (refine New.trans ?_ (by assumption)))))).mono ?_
      rintro e w1 ⟨rfl, n1⟩
      rw [HB.out]
      obtain ⟨c0, c1, f0, f1⟩ := pair_kept (p := ⟨w.heap.size, 0, none⟩) (q := ⟨w.heap.size, 1, none⟩) (x := .int .i64 0) (y := .int .i64 0) n1 (by simp [go_sem])
      have N1 := Lib.hid (show New w w1 from New.trans (by repeat (first | with_reducible exact New.refl _ | with_reducible assumption | refine New.drewN ?_ _ | refine New.drew ?_ | refine New.alloc ?_ _ | refine New.setCell ?_ (by first | omega | (simp; omega) | (simp; done)) _ | (refine New.trans ?_ (by assumption)))) n1); clear n1
      go_wp2_with fail
      refine (l1In_any _ _ _ _).mono ?_
      rintro e w9 ⟨rfl, rfl⟩
      rw [HX.out]
      go_wp2
      all_goals
        refine bodyPost_ret (v := .tuple #[ratV (0, 0), .bool false]) (by simp [results, Try.results28, go_sem, c0, c1]) rfl ⟨by rw [FM.out, FB.out], ?_⟩
        have := N1.out
        (repeat (first | with_reducible exact New.refl _ | with_reducible assumption | refine New.drewN ?_ _ | refine New.drew ?_ | refine New.alloc ?_ _ | refine New.setCell ?_ (by first | omega | (simp; omega) | (simp; done)) _ | (refine New.trans ?_ (by assumption))))
  · have hf := bool_no h
    have HB := Lib.hid hf
    have FB := Lib.hid (show fiB T x = false by unfold fiB; rw [HB.out]; rfl)
    have FM := Lib.hid (fiM_no FB.out)
    clear h hf
    go_enter Try.func28, Try.ntmps28
    go_wp2_with fail
    refine (leTanks_any _ _ _ _ T (HA.out.new (by repeat (first | with_reducible exact New.refl _ | with_reducible assumption | refine New.drewN ?_ _ | refine New.drew ?_ | refine New.alloc ?_ _ | refine New.setCell ?_ (by first | omega | (simp; omega) | (simp; done)) _ | (refine New.trans ?_ (by assumption)))))).mono ?_
    rintro e w1 ⟨rfl, n1⟩
    rw [HB.out]
    obtain ⟨c0, c1, f0, f1⟩ := pair_kept (p := ⟨w.heap.size, 0, none⟩) (q := ⟨w.heap.size, 1, none⟩) (x := .int .i64 0) (y := .int .i64 0) n1 (by simp [go_sem])
    have N1 := Lib.hid (show New w w1 from New.trans (by repeat (first | with_reducible exact New.refl _ | with_reducible assumption | refine New.drewN ?_ _ | refine New.drew ?_ | refine New.alloc ?_ _ | refine New.setCell ?_ (by first | omega | (simp; omega) | (simp; done)) _ | (refine New.trans ?_ (by assumption)))) n1); clear n1
    go_wp2
    refine bodyPost_ret (v := .tuple #[ratV (0, 0), .bool false]) (by simp [results, Try.results28, go_sem, c0, c1]) rfl ⟨by rw [FM.out, FB.out], ?_⟩
    have := N1.out
    (repeat (first | with_reducible exact New.refl _ | with_reducible assumption | refine New.drewN ?_ _ | refine New.drew ?_ | refine New.alloc ?_ _ | refine New.setCell ?_ (by first | omega | (simp; omega) | (simp; done)) _ | (refine New.trans ?_ (by assumption))))

set_option maxRecDepth 100000 in
set_option maxHeartbeats 4000000 in
theorem iFlowInto_any (w : World) (aa : Option Addr) (n ca : Nat) (T : List Tk) (x : Int) (ha : Tanks w aa n ca T) :
    Calls Try.prog 29 #[.slice aa n ca, .int .i64 x] w fun e w' => e = .returned (.tuple #[ratV (fiM T x), .bool (fiB T x)]) ∧ New w w' := by
  have HN := Lib.hid ha.1
  have hm := ha.2.2.1
  have HA := Lib.hid ha; clear ha
  by_cases h : tksB T = true
  · have HB := Lib.hid h
    have HT := Lib.hid (tksB_iff.1 h); clear h
    have hn : n ≤ 6 := by have := HN.out; have := HT.out.l6; omega
    by_cases hx : inB 0 ((n : Int) - 1) x = true
    · have hx' := inB_iff.1 hx
      obtain ⟨k, rfl⟩ : ∃ k : Nat, x = (k : Int) := ⟨x.toNat, by omega⟩
      have hk : k < n := by omega
      have HX := Lib.hid hx
      have FB := Lib.hid (show fiB T (k : Int) = true by unfold fiB; rw [HB.out, ← HN.out, HX.out]; rfl)
      have FM := Lib.hid (fiM_yes FB.out)
      have KC := Lib.hid (show k < T.length by have := HN.out; omega)
      clear hx hx'
      obtain ⟨b, o, rfl, g0, g1, g2⟩ := HA.out.2.2.2.1 k hk
      obtain ⟨a, ea⟩ : ∃ a, a = (T[k]?.getD (0, 0, 0)).1 := ⟨_, rfl⟩
      obtain ⟨f, ef⟩ : ∃ f, f = (T[k]?.getD (0, 0, 0)).2.1 := ⟨_, rfl⟩
      obtain ⟨u, eu⟩ : ∃ u, u = (T[k]?.getD (0, 0, 0)).2.2 := ⟨_, rfl⟩
      rw [← ea] at g0
      rw [← ef] at g1
      rw [← eu] at g2
      have ET := Lib.hid (show T[k]?.getD (0, 0, 0) = (a, f, u) by rw [ea, ef, eu]); clear ea ef eu
      have KO := Lib.hid (show TkOk (a, f, u) by rw [← ET.out]; exact HT.out.all _ (mem_get KC.out))
      have hu1 := KO.out.w1; have hu2 := KO.out.w2
      simp only at hu1 hu2
      have hbt := World.block_lt_of_cell? _ _ g0
      have HL := Lib.hid (com_lvbd HT.out)
      have UB := upC_bd HT.out KO.out
      obtain ⟨p, hp⟩ : ∃ p, p = comR T := ⟨_, rfl⟩
      have EP := Lib.hid hp
      rw [← hp] at HL
      have EU := Lib.hid (show upC T (a, f, u) = upR p.1 p.2 (a, f, u) by rw [hp]; rfl)
      clear hp
      obtain ⟨p1, p2⟩ := p
      obtain ⟨x, hx⟩ : ∃ x, x = upR p1 p2 (a, f, u) := ⟨_, rfl⟩
      have EX := Lib.hid (show upC T (a, f, u) = x by rw [EU.out, hx])
      have EY := Lib.hid (show red (upTo p1 p2 (a, f, u)) p2 = x from hx.symm)
      have EZ := Lib.hid (show upR p1 p2 (a, f, u) = x from hx.symm)
      clear hx EU
      rw [EX.out] at UB
      obtain ⟨x1, x2⟩ := x
      simp only at UB
      obtain ⟨ub1, ub2, ub3, ub4, ub5⟩ := UB
      have UC := Lib.hid ub5; clear ub5
      have hmb := mul_bd hu1 hu2 (show 0 ≤ x2 by omega) ub4
      obtain ⟨hmb1, hmb2⟩ := hmb
      have FR := Lib.hid (show fiM T (k : Int) = red (x1 - u * x2) x2 by rw [FM.out]; unfold fiR; rw [Int.toNat_natCast, ET.out, EX.out])
      clear FM
      go_enter Try.func29, Try.ntmps29
      go_wp2_with fail
      refine (iAreTanks_any _ _ _ _ T (HA.out.new (by repeat (first | with_reducible exact New.refl _ | with_reducible assumption | refine New.drewN ?_ _ | refine New.drew ?_ | refine New.alloc ?_ _ | refine New.setCell ?_ (by first | omega | (simp; omega) | (simp; done)) _ | (refine New.trans ?_ (by assumption)))))).mono ?_
      rintro e w1 ⟨rfl, n1⟩
      rw [HB.out]
      have cc := pair_kept (p := ⟨w.heap.size, 0, none⟩) (q := ⟨w.heap.size, 1, none⟩) (x := .int .i64 0) (y := .int .i64 0) n1 (by simp [go_sem])
      have N1 := Lib.hid (show New w w1 from New.trans (by repeat (first | with_reducible exact New.refl _ | with_reducible assumption | refine New.drewN ?_ _ | refine New.drew ?_ | refine New.alloc ?_ _ | refine New.setCell ?_ (by first | omega | (simp; omega) | (simp; done)) _ | (refine New.trans ?_ (by assumption)))) n1); clear n1
      go_upto_region 3 with fail
      obtain ⟨r0_v0, r1_v0, zr0_v0, zr1_v0⟩ := cc
      have a0_v0 := N1.out.cell g0
      have a1_v0 := N1.out.cell g1
      have a2_v0 := N1.out.cell g2
      have zv0 : w.heap.size < w1.heap.size := World.block_lt_of_cell? _ _ r0_v0
      clear g0 g1 g2
      obtain ⟨v0, hv0⟩ : ∃ u : World, u = w1 := ⟨_, rfl⟩
      rw [← hv0] at N1 r0_v0 r1_v0 zr0_v0 zr1_v0 a0_v0 a1_v0 a2_v0 zv0 ⊢
      clear hv0 w1
      go_cut [6] (fun p W => CutBox v0 (.int .i64 x1) (.int .i64 x2) p W)
      case first =>
        go_region_held3 (fun w' => w'.cell? ⟨b, o + k * 3, none⟩ = some (.int .i64 a) ∧ w'.cell? ⟨b, o + k * 3 + 1, none⟩ = some (.int .i64 f) ∧ w'.cell? ⟨b, o + k * 3 + 2, none⟩ = some (.int .i64 u))
          (first | with_reducible exact ⟨a0_v0, a1_v0, a2_v0⟩ | with_reducible exact ⟨World.cell_kept a0_v0, World.cell_kept a1_v0, World.cell_kept a2_v0⟩ | with_reducible exact ⟨a0_u1, a1_u1, a2_u1⟩ | with_reducible exact ⟨World.cell_kept a0_u1, World.cell_kept a1_u1, World.cell_kept a2_u1⟩ | with_reducible exact ⟨World.cell_set (World.cell_set a0_u1 (by simp; try omega)) (by simp; try omega), World.cell_set (World.cell_set a1_u1 (by simp; try omega)) (by simp; try omega), World.cell_set (World.cell_set a2_u1 (by simp; try omega)) (by simp; try omega)⟩ | with_reducible exact ⟨a0_u2, a1_u2, a2_u2⟩ | with_reducible exact ⟨World.cell_kept a0_u2, World.cell_kept a1_u2, World.cell_kept a2_u2⟩ | with_reducible exact ⟨World.cell_set (World.cell_set a0_u2 (by simp; try omega)) (by simp; try omega), World.cell_set (World.cell_set a1_u2 (by simp; try omega)) (by simp; try omega), World.cell_set (World.cell_set a2_u2 (by simp; try omega)) (by simp; try omega)⟩ | exact ⟨a0_v0, a1_v0, a2_v0⟩ | exact ⟨World.cell_kept a0_v0, World.cell_kept a1_v0, World.cell_kept a2_v0⟩ | fail)
          (first
            | (go_at_call 46; refine (commonLevel_any _ _ _ _ T (HA.out.new (N1.out.trans (by repeat (first | with_reducible exact New.refl _ | with_reducible assumption | refine New.drewN ?_ _ | refine New.drew ?_ | refine New.alloc ?_ _ | refine New.setCell ?_ (by first | omega | (simp; omega) | (simp; done)) _ | (refine New.trans ?_ (by assumption)))))) HT.out).mono ?_; rintro e u1 ⟨rfl, n_u1⟩; (try replace n_u1 := New.undrew n_u1); have a0_u1 : u1.cell? ⟨b, o + k * 3, none⟩ = some (.int .i64 a) := n_u1.cell (by first | exact a0_v0 | exact World.cell_kept a0_v0); have a1_u1 : u1.cell? ⟨b, o + k * 3 + 1, none⟩ = some (.int .i64 f) := n_u1.cell (by first | exact a1_v0 | exact World.cell_kept a1_v0); have a2_u1 : u1.cell? ⟨b, o + k * 3 + 2, none⟩ = some (.int .i64 u) := n_u1.cell (by first | exact a2_v0 | exact World.cell_kept a2_v0); have e_u1 := n_u1.size; (try simp only [World.size_alloc] at e_u1); (try (have kk := New.box n_u1; obtain ⟨j0, j1, j2, j3, j4⟩ := kk)); (try (have kk := New.boxed n_u1 j0 j1 j2 j3; clear j0 j1 j2 j3; obtain ⟨j0, j1, j2, j3⟩ := kk)); rw [← EP.out]; skip)
            | (go_at_call 49; refine (waterUpTo_any _ a f u p1 p2 KO.out HL.out).mono ?_; rintro e u2 ⟨rfl, n_u2⟩; (try replace n_u2 := New.undrew n_u2); have a0_u2 : u2.cell? ⟨b, o + k * 3, none⟩ = some (.int .i64 a) := n_u2.cell (by first | exact a0_u1 | exact World.cell_kept a0_u1); have a1_u2 : u2.cell? ⟨b, o + k * 3 + 1, none⟩ = some (.int .i64 f) := n_u2.cell (by first | exact a1_u1 | exact World.cell_kept a1_u1); have a2_u2 : u2.cell? ⟨b, o + k * 3 + 2, none⟩ = some (.int .i64 u) := n_u2.cell (by first | exact a2_u1 | exact World.cell_kept a2_u1); have e_u2 := n_u2.size; (try simp only [World.size_alloc] at e_u2); (try (have kk := New.box n_u2; obtain ⟨j0, j1, j2, j3, j4⟩ := kk)); (try (have kk := New.boxed n_u2 j0 j1 j2 j3; clear j0 j1 j2 j3; obtain ⟨j0, j1, j2, j3⟩ := kk)); rw [EY.out]; skip))
        all_goals (go_wp2_with fail; go_meet)
        all_goals
          have m0 : New v0 u1 := by first | exact n_u1 | exact ((New.refl _).alloc _).trans n_u1
          have y0 := n_u1.size
          (try simp only [World.size_alloc] at y0)
          have q0 := m0.size
          have m1 : New u1 u2 := by first | exact n_u2 | exact ((New.refl _).alloc _).trans n_u2
          have y1 := n_u2.size
          (try simp only [World.size_alloc] at y1)
          have q1 := m1.size
          first
            | exact CutBox.behind (m0.trans m1)
            | exact CutBox.put (m0.trans m1) (by omega) (by omega) j0 j1
      case rest =>
        obtain ⟨B3, rfl, hn, hlo, hhi, hc0, hc1⟩ := hcut
        obtain ⟨u3, rfl⟩ : ∃ u : World, u = wc := ⟨_, rfl⟩
        have a0_u3 : u3.cell? ⟨b, o + k * 3, none⟩ = some (.int .i64 a) := hn.cell a0_v0
        have a1_u3 : u3.cell? ⟨b, o + k * 3 + 1, none⟩ = some (.int .i64 f) := hn.cell a1_v0
        have a2_u3 : u3.cell? ⟨b, o + k * 3 + 2, none⟩ = some (.int .i64 u) := hn.cell a2_v0
        have r0_u3 : u3.cell? ⟨w.heap.size, 0, none⟩ = some (.int .i64 0) := hn.cell r0_v0
        have zr0_u3 : u3.frozen? ⟨w.heap.size, 0, none⟩ = false := hn.frz r0_v0 zr0_v0
        have r1_u3 : u3.cell? ⟨w.heap.size, 1, none⟩ = some (.int .i64 0) := hn.cell r1_v0
        have zr1_u3 : u3.frozen? ⟨w.heap.size, 1, none⟩ = false := hn.frz r1_v0 zr1_v0
        have c3_0_u3 := hc0
        have c3_1_u3 := hc1
        have K_u3 := Lib.hid (show New v0 u3 from hn)
        have z_u3 := hn.size
        clear hc0 hc1 hn
        have zB : w.heap.size < B3 := by have := z_u3; omega
        go_upto_region 4 with fail
        go_region_held3 (fun w' => w'.cell? ⟨b, o + k * 3 + 2, none⟩ = some (.int .i64 u) ∧ w'.cell? ⟨B3, 0, none⟩ = some (.int .i64 x1) ∧ w'.cell? ⟨B3, 1, none⟩ = some (.int .i64 x2))
          (first | with_reducible exact ⟨a2_u3, c3_0_u3, c3_1_u3⟩ | with_reducible exact ⟨a2_u4, c3_0_u4, c3_1_u4⟩ | with_reducible exact ⟨a2_u5, c3_0_u5, c3_1_u5⟩ | with_reducible exact ⟨World.cell_set (World.cell_set (a2_u5) (by simp; try omega)) (by simp; try omega), World.cell_set (World.cell_set (c3_0_u5) (by simp; try omega)) (by simp; try omega), World.cell_set (World.cell_set (c3_1_u5) (by simp; try omega)) (by simp; try omega)⟩ | exact ⟨a2_u3, c3_0_u3, c3_1_u3⟩ | fail)
          (first
            | (go_at_call 53; refine (wholeRatio_any _ u).mono ?_; rintro e u4 ⟨rfl, n_u4⟩; (try replace n_u4 := New.undrew n_u4); have a2_u4 : u4.cell? ⟨b, o + k * 3 + 2, none⟩ = some (.int .i64 u) := n_u4.cell a2_u3; have r0_u4 : u4.cell? ⟨w.heap.size, 0, none⟩ = some (.int .i64 0) := n_u4.cell r0_u3; have zr0_u4 : u4.frozen? ⟨w.heap.size, 0, none⟩ = false := n_u4.frz r0_u3 zr0_u3; have r1_u4 : u4.cell? ⟨w.heap.size, 1, none⟩ = some (.int .i64 0) := n_u4.cell r1_u3; have zr1_u4 : u4.frozen? ⟨w.heap.size, 1, none⟩ = false := n_u4.frz r1_u3 zr1_u3; have c3_0_u4 : u4.cell? ⟨B3, 0, none⟩ = some (.int .i64 x1) := n_u4.cell c3_0_u3; have c3_1_u4 : u4.cell? ⟨B3, 1, none⟩ = some (.int .i64 x2) := n_u4.cell c3_1_u3;  skip)
            | (go_at_call 52; refine (minus_any _ x1 x2 u 1 (by omega) (by omega) (by simp) (by omega) (by omega) (by omega) (by omega) (by omega) (by omega) (by omega) (by omega)).mono ?_; rintro e u5 ⟨rfl, n_u5⟩; (try replace n_u5 := New.undrew n_u5); have a2_u5 : u5.cell? ⟨b, o + k * 3 + 2, none⟩ = some (.int .i64 u) := n_u5.cell a2_u4; have r0_u5 : u5.cell? ⟨w.heap.size, 0, none⟩ = some (.int .i64 0) := n_u5.cell r0_u4; have zr0_u5 : u5.frozen? ⟨w.heap.size, 0, none⟩ = false := n_u5.frz r0_u4 zr0_u4; have r1_u5 : u5.cell? ⟨w.heap.size, 1, none⟩ = some (.int .i64 0) := n_u5.cell r1_u4; have zr1_u5 : u5.frozen? ⟨w.heap.size, 1, none⟩ = false := n_u5.frz r1_u4 zr1_u4; have c3_0_u5 : u5.cell? ⟨B3, 0, none⟩ = some (.int .i64 x1) := n_u5.cell c3_0_u4; have c3_1_u5 : u5.cell? ⟨B3, 1, none⟩ = some (.int .i64 x2) := n_u5.cell c3_1_u4;  skip))
        have K_u4 := Lib.hid (show New u3 u4 from n_u4); clear n_u4
        have K_u5 := Lib.hid (show New u4 u5 from n_u5); clear n_u5
        obtain ⟨p, hp⟩ : ∃ p, p = red (x1 - u * x2) x2 := ⟨_, rfl⟩
        rw [← hp] at FR ⊢
        clear hp
        go_wp2
        refine bodyPost_ret (v := .tuple #[ratV p, .bool true]) (by simp [results, Try.results29, go_sem, r0_u5, r1_u5]) rfl ⟨by rw [FR.out, FB.out], ?_⟩
        have := (((N1.out.trans K_u3.out).trans K_u4.out).trans K_u5.out)
        (repeat (first | with_reducible exact New.refl _ | with_reducible assumption | refine New.drewN ?_ _ | refine New.drew ?_ | refine New.alloc ?_ _ | refine New.setCell ?_ (by first | omega | (simp; omega) | (simp; done)) _ | (refine New.trans ?_ (by assumption))))
    · have hx := bool_no hx
      have HX := Lib.hid hx
      have FB := Lib.hid (show fiB T x = false by unfold fiB; rw [HB.out, ← HN.out, HX.out]; rfl)
      have FM := Lib.hid (fiM_no FB.out)
      have hx2 := inB_false.1 hx
      clear hx
      go_enter Try.func29, Try.ntmps29
      go_wp2_with fail
      refine (iAreTanks_any _ _ _ _ T (HA.out.new (by repeat (first | with_reducible exact New.refl _ | with_reducible assumption | refine New.drewN ?_ _ | refine New.drew ?_ | refine New.alloc ?_ _ | refine New.setCell ?_ (by first | omega | (simp; omega) | (simp; done)) _ | (refine New.trans ?_ (by assumption)))))).mono ?_
      rintro e w1 ⟨rfl, n1⟩
      rw [HB.out]
      obtain ⟨c0, c1, f0, f1⟩ := pair_kept (p := ⟨w.heap.size, 0, none⟩) (q := ⟨w.heap.size, 1, none⟩) (x := .int .i64 0) (y := .int .i64 0) n1 (by simp [go_sem])
      have N1 := Lib.hid (show New w w1 from New.trans (by repeat (first | with_reducible exact New.refl _ | with_reducible assumption | refine New.drewN ?_ _ | refine New.drew ?_ | refine New.alloc ?_ _ | refine New.setCell ?_ (by first | omega | (simp; omega) | (simp; done)) _ | (refine New.trans ?_ (by assumption)))) n1); clear n1
      go_wp2
      all_goals
        refine bodyPost_ret (v := .tuple #[ratV (0, 0), .bool false]) (by simp [results, Try.results29, go_sem, c0, c1]) rfl ⟨by rw [FM.out, FB.out], ?_⟩
        have := N1.out
        (repeat (first | with_reducible exact New.refl _ | with_reducible assumption | refine New.drewN ?_ _ | refine New.drew ?_ | refine New.alloc ?_ _ | refine New.setCell ?_ (by first | omega | (simp; omega) | (simp; done)) _ | (refine New.trans ?_ (by assumption))))
  · have hf := bool_no h
    have HB := Lib.hid hf
    have FB := Lib.hid (show fiB T x = false by unfold fiB; rw [HB.out]; rfl)
    have FM := Lib.hid (fiM_no FB.out)
    clear h hf
    go_enter Try.func29, Try.ntmps29
    go_wp2_with fail
    refine (iAreTanks_any _ _ _ _ T (HA.out.new (by repeat (first | with_reducible exact New.refl _ | with_reducible assumption | refine New.drewN ?_ _ | refine New.drew ?_ | refine New.alloc ?_ _ | refine New.setCell ?_ (by first | omega | (simp; omega) | (simp; done)) _ | (refine New.trans ?_ (by assumption)))))).mono ?_
    rintro e w1 ⟨rfl, n1⟩
    rw [HB.out]
    obtain ⟨c0, c1, f0, f1⟩ := pair_kept (p := ⟨w.heap.size, 0, none⟩) (q := ⟨w.heap.size, 1, none⟩) (x := .int .i64 0) (y := .int .i64 0) n1 (by simp [go_sem])
    have N1 := Lib.hid (show New w w1 from New.trans (by repeat (first | with_reducible exact New.refl _ | with_reducible assumption | refine New.drewN ?_ _ | refine New.drew ?_ | refine New.alloc ?_ _ | refine New.setCell ?_ (by first | omega | (simp; omega) | (simp; done)) _ | (refine New.trans ?_ (by assumption)))) n1); clear n1
    go_wp2
    refine bodyPost_ret (v := .tuple #[ratV (0, 0), .bool false]) (by simp [results, Try.results29, go_sem, c0, c1]) rfl ⟨by rw [FM.out, FB.out], ?_⟩
    have := N1.out
    (repeat (first | with_reducible exact New.refl _ | with_reducible assumption | refine New.drewN ?_ _ | refine New.drew ?_ | refine New.alloc ?_ _ | refine New.setCell ?_ (by first | omega | (simp; omega) | (simp; done)) _ | (refine New.trans ?_ (by assumption))))
end Go.Proofs.Ytkhniokfpmhonaa
