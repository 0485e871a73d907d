/- All that vessels reach, if others have the same sizes: the program's. -/
import Derived.Test.YtjailklnagfglaaIsS
namespace Go.Proofs.Ytjailklnagfglaa
open Go.RowKit Go.Maps

theorem FoundV.low {kf : List Int → Lit} {w0 w1 w : World} {base mb : Nat} {L : List Node} {vp vl : Value} {lay : List Int} {P St : Nat → Value} (h : FoundV kf w1 w base mb L vp vl lay P St) (n : New w0 w1) : FoundV kf w0 w base mb L vp vl lay P St :=
  ⟨n.trans h.new, by have := n.size; have := h.lo; omega, h.places, h.layers, h.map, h.plans, h.steps⟩
def BtRet (kf : List Int → Lit) (w : World) (sv : Value) (S H : List Int) (cl ok : Bool) (e : Ending) (w' : World) : Prop :=
  New w w' ∧ ((ok = true ∧ ∃ E, E = endN S H cl 3000 ∧ ∃ base mb vp vl P St, e = .returned (.tuple #[.agg #[sv, vp, vl, .map (some mb)], .bool true]) ∧ FoundV kf w w' base mb E vp vl (layN E) P St) ∨ (ok = false ∧ e = .returned (.tuple #[noneS, .bool false])))
theorem res_between {tmps : Array Value} {W : World} {R : Nat} {b : Bool} {x0 x1 x2 x3 : Value} (ht : tmps[6]?.getD undef = .pointer (some ⟨R, 0, none⟩)) (h7 : tmps[7]?.getD undef = .bool b)
    (c0 : W.cell? ⟨R, 0, none⟩ = some x0) (c1 : W.cell? ⟨R, 1, none⟩ = some x1) (c2 : W.cell? ⟨R, 2, none⟩ = some x2) (c3 : W.cell? ⟨R, 3, none⟩ = some x3) :
    (results Try.f41 tmps).run Try.prog W = .ok (.tuple #[.agg #[x0, x1, x2, x3], .bool b]) W := by
  simp [results, Try.results41, go_sem, ht, h7, c0, c1, c2, c3]

set_option maxRecDepth 100000 in
set_option maxHeartbeats 4000000 in
theorem searchBetween_any (kf : List Int → Lit) (KF : KeyH kf) (w : World) (aa ab ba bb : Option Addr) (n m p q ca cb cc cd : Nat) (S H T K : List Int) (cl : Bool) (h1 : Ints w aa n ca S) (h2 : Ints w ab m cb H) (h3 : Ints w ba p cc T) (h4 : Ints w bb q cd K) :
    Calls Try.prog 41 #[.agg #[.slice aa n ca, .slice ab m cb], .agg #[.slice ba p cc, .slice bb q cd], .bool cl] w (BtRet kf w (.slice aa n ca) S H cl (btwB S H T K cl)) := by
  have HA := Lib.hid h1; clear h1
  have HB := Lib.hid h2; clear h2
  have HC := Lib.hid h3; clear h3
  have HD := Lib.hid h4; clear h4
  obtain ⟨ok, hok⟩ : ∃ ok, ok = btwB S H T K cl := ⟨_, rfl⟩
  rw [← hok]
  have HO := Lib.hid hok; clear hok
  by_cases hg : goodB S H = true
  · by_cases hg2 : goodB T K = true
    · by_cases hst : S = T
      · have hs : sizB S H T K = true := by rw [sizB_yes hg hg2]; exact decide_eq_true hst
        have EQ := Lib.hid (decide_eq_true hst)
        have OE := Lib.hid (show ok = fewB S H cl 3000 from by rw [HO.out, btwB_eq hs])
        have CE := Lib.hid (show countB S H cl = ok from by rw [OE.out]; unfold countB; rw [hg, Bool.true_and])
        have HG := Lib.hid hg
        have HG2 := Lib.hid hg2
        clear hg hg2 hs hst
        go_enter Try.func41, Try.ntmps41
        go_wp2_with fail
        refine (iAreVessels_any _ _ _ _ _ _ _ _ _ (HA.out.new (by repeat (first | with_reducible exact New.refl _ | with_reducible assumption | refine New.drewN ?_ _ | refine New.drew ?_ | refine New.alloc ?_ _ | refine New.setCell ?_ (by first | omega | (simp; omega) | (simp; done)) _ | (refine New.trans ?_ (by assumption))))) (HB.out.new (by repeat (first | with_reducible exact New.refl _ | with_reducible assumption | refine New.drewN ?_ _ | refine New.drew ?_ | refine New.alloc ?_ _ | refine New.setCell ?_ (by first | omega | (simp; omega) | (simp; done)) _ | (refine New.trans ?_ (by assumption)))))).mono ?_
        rintro e w1 ⟨rfl, n1⟩
        rw [HG.out]
        have a0 : w1.cell? ⟨w.heap.size, 0, none⟩ = some (.slice aa n ca) := n1.cell (by simp [go_sem])
        have a1 : w1.cell? ⟨w.heap.size, 1, none⟩ = some (.slice ab m cb) := n1.cell (by simp [go_sem])
        have b0 : w1.cell? ⟨w.heap.size + 1, 0, none⟩ = some (.slice ba p cc) := n1.cell (by simp [go_sem])
        have b1 : w1.cell? ⟨w.heap.size + 1, 1, none⟩ = some (.slice bb q cd) := n1.cell (by simp [go_sem])
        have r0 : w1.cell? ⟨w.heap.size + 1 + 1, 0, none⟩ = some (.slice none 0 0) := n1.cell (by simp [go_sem])
        have r1 : w1.cell? ⟨w.heap.size + 1 + 1, 1, none⟩ = some (.slice none 0 0) := n1.cell (by simp [go_sem])
        have r2 : w1.cell? ⟨w.heap.size + 1 + 1, 2, none⟩ = some (.slice none 0 0) := n1.cell (by simp [go_sem])
        have r3 : w1.cell? ⟨w.heap.size + 1 + 1, 3, none⟩ = some (.map none) := n1.cell (by simp [go_sem])
        have rf0 : w1.frozen? ⟨w.heap.size + 1 + 1, 0, none⟩ = false := n1.frz (v := .slice none 0 0) (by simp [go_sem]) (by simp [go_sem])
        have rf1 : w1.frozen? ⟨w.heap.size + 1 + 1, 1, none⟩ = false := n1.frz (v := .slice none 0 0) (by simp [go_sem]) (by simp [go_sem])
        have rf2 : w1.frozen? ⟨w.heap.size + 1 + 1, 2, none⟩ = false := n1.frz (v := .slice none 0 0) (by simp [go_sem]) (by simp [go_sem])
        have rf3 : w1.frozen? ⟨w.heap.size + 1 + 1, 3, none⟩ = false := n1.frz (v := .map none) (by simp [go_sem]) (by simp [go_sem])
        have N1 := Lib.hid (show New w w1 from New.trans (by repeat (first | with_reducible exact New.refl _ | with_reducible assumption | refine New.drewN ?_ _ | refine New.drew ?_ | refine New.alloc ?_ _ | refine New.setCell ?_ (by first | omega | (simp; omega) | (simp; done)) _ | (refine New.trans ?_ (by assumption)))) n1); clear n1
        go_wp2_with fail
        refine (iAreVessels_any _ _ _ _ _ _ _ _ _ (HC.out.new N1.out) (HD.out.new N1.out)).mono ?_
        rintro e w2 ⟨rfl, n2⟩
        rw [HG2.out]
        have a0' := n2.cell a0
        have a1' := n2.cell a1
        have b0' := n2.cell b0
        have b1' := n2.cell b1
        have N2 := Lib.hid n2; clear n2
        go_wp2_with fail
        refine (equal_any _ _ _ _ _ _ _ S T (HA.out.new (N1.out.trans N2.out)) (HC.out.new (N1.out.trans N2.out))).mono ?_
        rintro e w3 ⟨rfl, n3⟩
        rw [EQ.out]
        have a0'' := n3.cell a0'
        have a1'' := n3.cell a1'
        have N3 := Lib.hid (N2.out.trans n3); clear n3 a0' a1' b0' b1'
        go_wp2_with fail
        refine (reachedFrom_any kf KF _ _ _ _ _ _ _ S H cl 3000 (HA.out.new (N1.out.trans N3.out)) (HB.out.new (N1.out.trans N3.out)) (by omega) (by omega)).mono ?_
        intro e w4 hp
        obtain ⟨n4, h⟩ := hp.parts
        clear hp
        have N4 := Lib.hid (N3.out.trans n4)
        have zR : w.heap.size + 1 + 1 < w3.heap.size := by have q1 := World.block_lt_of_cell? _ _ r0; have := N3.out.size; simp only at q1; omega
        have t0 := N4.out.cell r0
        have t1 := N4.out.cell r1
        have t2 := N4.out.cell r2
        have t3 := N4.out.cell r3
        have tf0 := N4.out.frz r0 rf0
        have tf1 := N4.out.frz r1 rf1
        have tf2 := N4.out.frz r2 rf2
        have tf3 := N4.out.frz r3 rf3
        have ZR := Lib.hid zR
        clear a0 a1 b0 b1 a0'' a1'' r0 r1 r2 r3 rf0 rf1 rf2 rf3 n4 zR
        rcases h with ⟨hc, E, hE, base, mb, vp, vl, P, St, rfl, fv⟩ | ⟨hc, rfl⟩
        · have OK := Lib.hid (show ok = true from by rw [← CE.out]; exact hc)
          have HE := Lib.hid hE
          clear hc hE
          obtain ⟨ao, cap, hv⟩ := own_slice fv.places
          subst hv
          obtain ⟨al, capl, hvl⟩ := own_slice fv.layers
          subst hvl
          have FV := Lib.hid (fv.low (N1.out.trans N3.out))
          have LO := Lib.hid fv.lo
          clear fv
          go_wp2
          obtain ⟨q0, q1, q2, q3, qc⟩ := four_set (.slice aa n ca) (.slice ao E.length cap) (.slice al (layN E).length capl) (.map (some mb)) t0 t1 t2 t3
          have fc := FV.out.chg qc (by omega) (by have := LO.out; have := ZR.out; omega) (by have := LO.out; have := ZR.out; omega)
          exact bodyPost_ret (v := .tuple #[.agg #[.slice aa n ca, .slice ao E.length cap, .slice al (layN E).length capl, .map (some mb)], .bool true]) (res_between rfl rfl q0 q1 q2 q3) rfl ⟨fc.new, .inl ⟨OK.out, E, HE.out, base, mb, _, _, P, St, rfl, fc⟩⟩
        · have OK := Lib.hid (show ok = false from by rw [← CE.out]; exact hc)
          clear hc
          unfold noneS
          go_wp2
          obtain ⟨q0, q1, q2, q3, qc⟩ := four_set (.slice none 0 0) (.slice none 0 0) (.slice none 0 0) (.map none) t0 t1 t2 t3
          exact bodyPost_ret (v := .tuple #[noneS, .bool false]) (res_between rfl rfl q0 q1 q2 q3) rfl ⟨Chg.new (N1.out.trans N4.out) qc (fun i hi => by omega), .inr ⟨OK.out, rfl⟩⟩
      · have OK := Lib.hid (show ok = false from by rw [HO.out, btwB_no1 (sizB_no3 hst)])
        have EQ := Lib.hid (decide_eq_false hst)
        have HG := Lib.hid hg
        have HG2 := Lib.hid hg2
        clear hg hg2 hst
        go_enter Try.func41, Try.ntmps41
        go_wp2_with fail
        refine (iAreVessels_any _ _ _ _ _ _ _ _ _ (HA.out.new (by repeat (first | with_reducible exact New.refl _ | with_reducible assumption | refine New.drewN ?_ _ | refine New.drew ?_ | refine New.alloc ?_ _ | refine New.setCell ?_ (by first | omega | (simp; omega) | (simp; done)) _ | (refine New.trans ?_ (by assumption))))) (HB.out.new (by repeat (first | with_reducible exact New.refl _ | with_reducible assumption | refine New.drewN ?_ _ | refine New.drew ?_ | refine New.alloc ?_ _ | refine New.setCell ?_ (by first | omega | (simp; omega) | (simp; done)) _ | (refine New.trans ?_ (by assumption)))))).mono ?_
        rintro e w1 ⟨rfl, n1⟩
        rw [HG.out]
        have a0 : w1.cell? ⟨w.heap.size, 0, none⟩ = some (.slice aa n ca) := n1.cell (by simp [go_sem])
        have a1 : w1.cell? ⟨w.heap.size, 1, none⟩ = some (.slice ab m cb) := n1.cell (by simp [go_sem])
        have b0 : w1.cell? ⟨w.heap.size + 1, 0, none⟩ = some (.slice ba p cc) := n1.cell (by simp [go_sem])
        have b1 : w1.cell? ⟨w.heap.size + 1, 1, none⟩ = some (.slice bb q cd) := n1.cell (by simp [go_sem])
        have r0 : w1.cell? ⟨w.heap.size + 1 + 1, 0, none⟩ = some (.slice none 0 0) := n1.cell (by simp [go_sem])
        have r1 : w1.cell? ⟨w.heap.size + 1 + 1, 1, none⟩ = some (.slice none 0 0) := n1.cell (by simp [go_sem])
        have r2 : w1.cell? ⟨w.heap.size + 1 + 1, 2, none⟩ = some (.slice none 0 0) := n1.cell (by simp [go_sem])
        have r3 : w1.cell? ⟨w.heap.size + 1 + 1, 3, none⟩ = some (.map none) := n1.cell (by simp [go_sem])
        have rf0 : w1.frozen? ⟨w.heap.size + 1 + 1, 0, none⟩ = false := n1.frz (v := .slice none 0 0) (by simp [go_sem]) (by simp [go_sem])
        have rf1 : w1.frozen? ⟨w.heap.size + 1 + 1, 1, none⟩ = false := n1.frz (v := .slice none 0 0) (by simp [go_sem]) (by simp [go_sem])
        have rf2 : w1.frozen? ⟨w.heap.size + 1 + 1, 2, none⟩ = false := n1.frz (v := .slice none 0 0) (by simp [go_sem]) (by simp [go_sem])
        have rf3 : w1.frozen? ⟨w.heap.size + 1 + 1, 3, none⟩ = false := n1.frz (v := .map none) (by simp [go_sem]) (by simp [go_sem])
        have N1 := Lib.hid (show New w w1 from New.trans (by repeat (first | with_reducible exact New.refl _ | with_reducible assumption | refine New.drewN ?_ _ | refine New.drew ?_ | refine New.alloc ?_ _ | refine New.setCell ?_ (by first | omega | (simp; omega) | (simp; done)) _ | (refine New.trans ?_ (by assumption)))) n1); clear n1
        go_wp2_with fail
        refine (iAreVessels_any _ _ _ _ _ _ _ _ _ (HC.out.new N1.out) (HD.out.new N1.out)).mono ?_
        rintro e w2 ⟨rfl, n2⟩
        rw [HG2.out]
        have a0' := n2.cell a0
        have b0' := n2.cell b0
        have N2 := Lib.hid n2; clear n2
        go_wp2_with fail
        refine (equal_any _ _ _ _ _ _ _ S T (HA.out.new (N1.out.trans N2.out)) (HC.out.new (N1.out.trans N2.out))).mono ?_
        rintro e w3 ⟨rfl, n3⟩
        rw [EQ.out]
        have N3 := Lib.hid (N2.out.trans n3); clear n3
        have t0 := N3.out.cell r0
        have t1 := N3.out.cell r1
        have t2 := N3.out.cell r2
        have t3 := N3.out.cell r3
        have tf0 := N3.out.frz r0 rf0
        have tf1 := N3.out.frz r1 rf1
        have tf2 := N3.out.frz r2 rf2
        have tf3 := N3.out.frz r3 rf3
        go_wp2
        obtain ⟨q0, q1, q2, q3, qc⟩ := four_set (.slice none 0 0) (.slice none 0 0) (.slice none 0 0) (.map none) t0 t1 t2 t3
        exact bodyPost_ret (v := .tuple #[noneS, .bool false]) (res_between rfl rfl q0 q1 q2 q3) rfl ⟨Chg.new (N1.out.trans N3.out) qc (fun i hi => by omega), .inr ⟨OK.out, rfl⟩⟩
    · have hgf : goodB T K = false := by simpa using hg2
      have OK := Lib.hid (show ok = false from by rw [HO.out, btwB_no1 (sizB_no2 hgf)])
      have HG := Lib.hid hg
      have HG2 := Lib.hid hgf
      clear hg hg2 hgf
      go_enter Try.func41, Try.ntmps41
      go_wp2_with fail
      refine (iAreVessels_any _ _ _ _ _ _ _ _ _ (HA.out.new (by repeat (first | with_reducible exact New.refl _ | with_reducible assumption | refine New.drewN ?_ _ | refine New.drew ?_ | refine New.alloc ?_ _ | refine New.setCell ?_ (by first | omega | (simp; omega) | (simp; done)) _ | (refine New.trans ?_ (by assumption))))) (HB.out.new (by repeat (first | with_reducible exact New.refl _ | with_reducible assumption | refine New.drewN ?_ _ | refine New.drew ?_ | refine New.alloc ?_ _ | refine New.setCell ?_ (by first | omega | (simp; omega) | (simp; done)) _ | (refine New.trans ?_ (by assumption)))))).mono ?_
      rintro e w1 ⟨rfl, n1⟩
      rw [HG.out]
      have a0 : w1.cell? ⟨w.heap.size, 0, none⟩ = some (.slice aa n ca) := n1.cell (by simp [go_sem])
      have a1 : w1.cell? ⟨w.heap.size, 1, none⟩ = some (.slice ab m cb) := n1.cell (by simp [go_sem])
      have b0 : w1.cell? ⟨w.heap.size + 1, 0, none⟩ = some (.slice ba p cc) := n1.cell (by simp [go_sem])
      have b1 : w1.cell? ⟨w.heap.size + 1, 1, none⟩ = some (.slice bb q cd) := n1.cell (by simp [go_sem])
      have r0 : w1.cell? ⟨w.heap.size + 1 + 1, 0, none⟩ = some (.slice none 0 0) := n1.cell (by simp [go_sem])
      have r1 : w1.cell? ⟨w.heap.size + 1 + 1, 1, none⟩ = some (.slice none 0 0) := n1.cell (by simp [go_sem])
      have r2 : w1.cell? ⟨w.heap.size + 1 + 1, 2, none⟩ = some (.slice none 0 0) := n1.cell (by simp [go_sem])
      have r3 : w1.cell? ⟨w.heap.size + 1 + 1, 3, none⟩ = some (.map none) := n1.cell (by simp [go_sem])
      have rf0 : w1.frozen? ⟨w.heap.size + 1 + 1, 0, none⟩ = false := n1.frz (v := .slice none 0 0) (by simp [go_sem]) (by simp [go_sem])
      have rf1 : w1.frozen? ⟨w.heap.size + 1 + 1, 1, none⟩ = false := n1.frz (v := .slice none 0 0) (by simp [go_sem]) (by simp [go_sem])
      have rf2 : w1.frozen? ⟨w.heap.size + 1 + 1, 2, none⟩ = false := n1.frz (v := .slice none 0 0) (by simp [go_sem]) (by simp [go_sem])
      have rf3 : w1.frozen? ⟨w.heap.size + 1 + 1, 3, none⟩ = false := n1.frz (v := .map none) (by simp [go_sem]) (by simp [go_sem])
      have N1 := Lib.hid (show New w w1 from New.trans (by repeat (first | with_reducible exact New.refl _ | with_reducible assumption | refine New.drewN ?_ _ | refine New.drew ?_ | refine New.alloc ?_ _ | refine New.setCell ?_ (by first | omega | (simp; omega) | (simp; done)) _ | (refine New.trans ?_ (by assumption)))) n1); clear n1
      go_wp2_with fail
      refine (iAreVessels_any _ _ _ _ _ _ _ _ _ (HC.out.new N1.out) (HD.out.new N1.out)).mono ?_
      rintro e w2 ⟨rfl, n2⟩
      rw [HG2.out]
      have N2 := Lib.hid n2; clear n2
      have t0 := N2.out.cell r0
      have t1 := N2.out.cell r1
      have t2 := N2.out.cell r2
      have t3 := N2.out.cell r3
      have tf0 := N2.out.frz r0 rf0
      have tf1 := N2.out.frz r1 rf1
      have tf2 := N2.out.frz r2 rf2
      have tf3 := N2.out.frz r3 rf3
      go_wp2
      obtain ⟨q0, q1, q2, q3, qc⟩ := four_set (.slice none 0 0) (.slice none 0 0) (.slice none 0 0) (.map none) t0 t1 t2 t3
      exact bodyPost_ret (v := .tuple #[noneS, .bool false]) (res_between rfl rfl q0 q1 q2 q3) rfl ⟨Chg.new (N1.out.trans N2.out) qc (fun i hi => by omega), .inr ⟨OK.out, rfl⟩⟩
  · have hgf : goodB S H = false := by simpa using hg
    have OK := Lib.hid (show ok = false from by rw [HO.out, btwB_no1 (sizB_no1 hgf)])
    have HG := Lib.hid hgf
    clear hg hgf
    go_enter Try.func41, Try.ntmps41
    go_wp2_with fail
    refine (iAreVessels_any _ _ _ _ _ _ _ _ _ (HA.out.new (by repeat (first | with_reducible exact New.refl _ | with_reducible assumption | refine New.drewN ?_ _ | refine New.drew ?_ | refine New.alloc ?_ _ | refine New.setCell ?_ (by first | omega | (simp; omega) | (simp; done)) _ | (refine New.trans ?_ (by assumption))))) (HB.out.new (by repeat (first | with_reducible exact New.refl _ | with_reducible assumption | refine New.drewN ?_ _ | refine New.drew ?_ | refine New.alloc ?_ _ | refine New.setCell ?_ (by first | omega | (simp; omega) | (simp; done)) _ | (refine New.trans ?_ (by assumption)))))).mono ?_
    rintro e w1 ⟨rfl, n1⟩
    rw [HG.out]
    have a0 : w1.cell? ⟨w.heap.size, 0, none⟩ = some (.slice aa n ca) := n1.cell (by simp [go_sem])
    have a1 : w1.cell? ⟨w.heap.size, 1, none⟩ = some (.slice ab m cb) := n1.cell (by simp [go_sem])
    have b0 : w1.cell? ⟨w.heap.size + 1, 0, none⟩ = some (.slice ba p cc) := n1.cell (by simp [go_sem])
    have b1 : w1.cell? ⟨w.heap.size + 1, 1, none⟩ = some (.slice bb q cd) := n1.cell (by simp [go_sem])
    have r0 : w1.cell? ⟨w.heap.size + 1 + 1, 0, none⟩ = some (.slice none 0 0) := n1.cell (by simp [go_sem])
    have r1 : w1.cell? ⟨w.heap.size + 1 + 1, 1, none⟩ = some (.slice none 0 0) := n1.cell (by simp [go_sem])
    have r2 : w1.cell? ⟨w.heap.size + 1 + 1, 2, none⟩ = some (.slice none 0 0) := n1.cell (by simp [go_sem])
    have r3 : w1.cell? ⟨w.heap.size + 1 + 1, 3, none⟩ = some (.map none) := n1.cell (by simp [go_sem])
    have rf0 : w1.frozen? ⟨w.heap.size + 1 + 1, 0, none⟩ = false := n1.frz (v := .slice none 0 0) (by simp [go_sem]) (by simp [go_sem])
    have rf1 : w1.frozen? ⟨w.heap.size + 1 + 1, 1, none⟩ = false := n1.frz (v := .slice none 0 0) (by simp [go_sem]) (by simp [go_sem])
    have rf2 : w1.frozen? ⟨w.heap.size + 1 + 1, 2, none⟩ = false := n1.frz (v := .slice none 0 0) (by simp [go_sem]) (by simp [go_sem])
    have rf3 : w1.frozen? ⟨w.heap.size + 1 + 1, 3, none⟩ = false := n1.frz (v := .map none) (by simp [go_sem]) (by simp [go_sem])
    have N1 := Lib.hid (show New w w1 from New.trans (by repeat (first | with_reducible exact New.refl _ | with_reducible assumption | refine New.drewN ?_ _ | refine New.drew ?_ | refine New.alloc ?_ _ | refine New.setCell ?_ (by first | omega | (simp; omega) | (simp; done)) _ | (refine New.trans ?_ (by assumption)))) n1); clear n1
    go_wp2
    obtain ⟨q0, q1, q2, q3, qc⟩ := four_set (.slice none 0 0) (.slice none 0 0) (.slice none 0 0) (.map none) r0 r1 r2 r3
    exact bodyPost_ret (v := .tuple #[noneS, .bool false]) (res_between rfl rfl q0 q1 q2 q3) rfl ⟨Chg.new N1.out qc (fun i hi => by omega), .inr ⟨OK.out, rfl⟩⟩
end Go.Proofs.Ytjailklnagfglaa
