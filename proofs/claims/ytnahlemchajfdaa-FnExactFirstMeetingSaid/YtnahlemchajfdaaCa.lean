/- ClockAfter: the model's, and the level behind so many ticks. -/
import Derived.Test.YtnahlemchajfdaaLev
import Derived.Test.YtnahlemchajfdaaAll
import Derived.Test.YtnahlemchajfdaaClkL
import Derived.Deep.RegionHeld3
import Derived.Deep.DeepCutAuto
namespace Go.Proofs.Ytnahlemchajfdaa
open Go.RowKit Go.IntWalk

theorem levK_past {D L : Int} (hD : 1 ≤ D) (hL : 0 ≤ L) : ∀ k, tim D L ≤ k → levK D L k = 0 := by
  intro k hk
  induction k with
  | zero => have e : tim D L = 0 := by omega
            rw [← e]; exact levK_end hD hL
  | succ k ih =>
    by_cases h : tim D L ≤ k
    · rw [levK_succ, ih h]
      unfold qUp
      rw [Int.zero_add, Int.zero_sub_ediv hD]
    · have e : k + 1 = tim D L := by omega
      rw [e]; exact levK_end hD hL
where
  Int.zero_sub_ediv {D : Int} (hD : 1 ≤ D) : 0 - (D - 1) / D = 0 := by
    rw [Int.ediv_eq_zero_of_lt (by omega) (by omega)]; rfl

theorem Chg.frz {P : Nat → Prop} {w w' : World} (h : Chg P w w') {p : Addr} {v : Value} (hc : w.cell? p = some v) (hp : ¬ P p.block) (hf : w.frozen? p = false) : w'.frozen? p = false := by
  rw [← hf]; exact World.frozen?_of_block (h.block _ (World.block_lt_of_cell? _ _ hc) hp)

set_option maxRecDepth 100000 in
set_option maxHeartbeats 4000000 in
theorem ckAfter_any (w : World) (L D t : Int) (h0 : 0 ≤ L) (h1 : L ≤ 1000) (h2 : 1 ≤ D) (h3 : D ≤ 100) (h4 : 0 ≤ t) (h5 : t ≤ 10000) :
    Calls Try.prog 28 #[.agg #[.int .i64 L, .int .i64 D], .int .i64 t] w fun e w' => e = .returned (.agg #[.int .i64 (levK D L t.toNat), .int .i64 D]) ∧ New w w' := by
  have LA := Lib.hid (levK_all (L := L) h2 h0)
  have LP := Lib.hid (fun k => levK_pos (L := L) h2 h0 (k := k))
  have LE := Lib.hid (levK_past (L := L) h2 h0)
  have hn := tim_le h2 1000 L h0 h1
  obtain ⟨n, en⟩ : ∃ n, n = tim D L := ⟨_, rfl⟩
  rw [← en] at LA LP LE hn
  clear en
  go_enter Try.func28, Try.ntmps28
  go_wp2
  go_loopw [1] (fun v wr => ∃ j : Nat, j ≤ n ∧ (j : Int) ≤ t ∧ v = .int .i64 (t - j) ∧ wr.cell? ⟨w.heap.size, 0, none⟩ = some (.int .i64 (levK D L j)) ∧ wr.frozen? ⟨w.heap.size, 0, none⟩ = false ∧ wr.cell? ⟨w.heap.size, 1, none⟩ = some (.int .i64 D) ∧ (∃ y, wr.cell? ⟨w.heap.size + 1, 0, none⟩ = some y) ∧ (∃ y, wr.cell? ⟨w.heap.size + 1, 1, none⟩ = some y) ∧ wr.frozen? ⟨w.heap.size + 1, 0, none⟩ = false ∧ wr.frozen? ⟨w.heap.size + 1, 1, none⟩ = false ∧ New w wr) (fun v _ => (intOf v).toNat)
  case atStart => exact ⟨0, Nat.zero_le _, h4, by simp, by simp [go_sem, levK], by simp [go_sem], by simp [go_sem], ⟨_, by simp [go_sem]; rfl⟩, ⟨_, by simp [go_sem]; rfl⟩, by simp [go_sem], by simp [go_sem], (by repeat (first | with_reducible exact New.refl _ | with_reducible assumption | refine New.drewN ?_ _ | refine New.drew ?_ | refine New.alloc ?_ _ | refine New.setCell ?_ (by first | omega | (simp; omega) | (simp; done)) _ | (refine New.trans ?_ (by assumption))))⟩
  case round =>
    obtain ⟨j, hj, hjt, rfl, c0, z0, c1, ⟨y0, d0⟩, ⟨y1, d1⟩, z2, z3, hnw⟩ := hrel
    have NW := Lib.hid hnw; clear hnw
    have zb := World.block_lt_of_cell? _ _ c0
    simp only at zb
    by_cases hlt : j < n
    · by_cases ht : 0 < t - j
      · have p := LP.out j hlt
        obtain ⟨p0, p1, _⟩ := LA.out j hj
        have q1 := qUp_bd (a := levK D L j) p0 h2
        have q2 := qUp_pos p h2
        have LS := Lib.hid (levK_succ D L j)
        have FA := Lib.hid (fun w => ckDrop_any (levK D L j) D w p0 (by omega) h2 (by omega))
        obtain ⟨x, hx⟩ : ∃ x, x = levK D L j := ⟨_, rfl⟩
        rw [← hx] at p p0 p1 q1 q2 LS FA c0
        obtain ⟨d, hd⟩ : ∃ d, d = qUp x D := ⟨_, rfl⟩
        rw [← hd] at q1 q2 LS FA
        clear hx hd
        have g1 : IntKind.i64.wrap (x - d) = x - d := i64_in _ (by omega)
        have g2 : IntKind.i64.wrap (t - j - 1) = t - j - 1 := i64_in _ (by omega)
        have hpos : 0 < x := by omega
        clear LA LP
        go_upto_region 3 with fail
        go_region_with (go_at_call 38; refine (FA.out _).mono ?_; rintro e w3 ⟨rfl, n3⟩; have k0 : w3.cell? ⟨w.heap.size, 0, none⟩ = some (.int .i64 x) := n3.cell c0; have f0 : w3.frozen? ⟨w.heap.size, 0, none⟩ = false := n3.frz c0 z0; have k1 : w3.cell? ⟨w.heap.size, 1, none⟩ = some (.int .i64 D) := n3.cell c1; have b3 := World.block_lt_of_cell? _ _ k0; simp only at b3)
        all_goals go_wp2
        all_goals
          have m3 : New wr w3 := by first | exact n3 | exact New.undrew n3
          have e0 : w3.cell? ⟨w.heap.size + 1, 0, none⟩ = some y0 := m3.cell d0
          have e1 : w3.cell? ⟨w.heap.size + 1, 1, none⟩ = some y1 := m3.cell d1
          have e2 : w3.frozen? ⟨w.heap.size + 1, 0, none⟩ = false := m3.frz d0 z2
          have e3 : w3.frozen? ⟨w.heap.size + 1, 1, none⟩ = false := m3.frz d1 z3
          have NN := NW.out.trans m3
          go_roundw
          case rel => exact ⟨j + 1, by omega, by push_cast; omega, by push_cast; congr 1; omega, by rw [LS.out]; exact set_same k0, by rw [World.frozen?_setCell]; exact f0, by rw [set_other (by simp)]; exact k1, ⟨_, by rw [set_other (by simp)]; exact e0⟩, ⟨_, by rw [set_other (by simp)]; exact e1⟩, by rw [World.frozen?_setCell]; exact e2, by rw [World.frozen?_setCell]; exact e3, NN.setCell (p := ⟨w.heap.size, 0, none⟩) (Nat.le_refl _) _⟩
          case measure => simp [intOf]; omega
      · have ej : t.toNat = j := by omega
        have zt : t - (j : Int) = 0 := by omega
        have EJ := Lib.hid ej
        obtain ⟨x, hx⟩ : ∃ x, x = levK D L j := ⟨_, rfl⟩
        rw [← hx] at c0
        have HX := Lib.hid hx
        rw [zt]
        clear LA LP hx ej
        go_wp2
        refine bodyPost_ret (v := .agg #[.int .i64 x, .int .i64 D]) (by simp [results, Try.results28, go_sem, d0, d1]) rfl ⟨by rw [EJ.out, ← HX.out], ?_⟩
        exact (NW.out.setCell (p := ⟨w.heap.size + 1, 0, none⟩) (by simp) _).setCell (p := ⟨w.heap.size + 1, 1, none⟩) (by simp) _
    · obtain rfl : j = n := by omega
      rw [LE.out j (Nat.le_refl _)] at c0
      have EJ := Lib.hid (LE.out t.toNat (by omega))
      clear LA LP
      by_cases ht : 0 < t - (j : Int)
      · go_wp2
        refine bodyPost_ret (v := .agg #[.int .i64 0, .int .i64 D]) (by simp [results, Try.results28, go_sem, d0, d1]) rfl ⟨by rw [EJ.out], ?_⟩
        exact (NW.out.setCell (p := ⟨w.heap.size + 1, 0, none⟩) (by simp) _).setCell (p := ⟨w.heap.size + 1, 1, none⟩) (by simp) _
      · go_wp2
        refine bodyPost_ret (v := .agg #[.int .i64 0, .int .i64 D]) (by simp [results, Try.results28, go_sem, d0, d1]) rfl ⟨by rw [EJ.out], ?_⟩
        exact (NW.out.setCell (p := ⟨w.heap.size + 1, 0, none⟩) (by simp) _).setCell (p := ⟨w.heap.size + 1, 1, none⟩) (by simp) _

def caB (L D t : Int) : Bool := ckB L D && tmB t
def caL (L D t : Int) : Int := if caB L D t then levK D L t.toNat else 0
def caD (L D t : Int) : Int := if caB L D t then D else 0

set_option maxHeartbeats 2000000 in
theorem sClockAfter_any (w : World) (L D t : Int) :
    Calls Try.prog 9 #[.agg #[.int .i64 L, .int .i64 D], .int .i64 t] w fun e w' => e = .returned (.tuple #[.agg #[.int .i64 (caL L D t), .int .i64 (caD L D t)], .bool (caB L D t)]) ∧ New w w' := by
  by_cases hg : ckB L D = true
  · have q := ckB_iff.1 hg
    have G := Lib.hid hg
    by_cases hx : tmB t = true
    · have HM := Lib.hid (show caB L D t = true ∧ caL L D t = levK D L t.toNat ∧ caD L D t = D by
        have e : caB L D t = true := by unfold caB; rw [hg, hx]; rfl
        exact ⟨e, by unfold caL; rw [if_pos e], by unfold caD; rw [if_pos e]⟩)
      have qx : 0 ≤ t ∧ t ≤ 10000 := by unfold tmB at hx; exact inB_iff.1 hx
      have FA := Lib.hid (fun w => ckAfter_any w L D t q.1.1 q.1.2 q.2.1 q.2.2 qx.1 qx.2)
      have X := Lib.hid hx
      clear hg hx qx
      go_enter Try.func9, Try.ntmps9
      go_wp2_with fail
      refine (ckGood_any _ _ _).mono ?_
      rintro e w1 ⟨rfl, n_w1⟩
      have b0_w1 : w1.cell? ⟨w.heap.size, 0, none⟩ = some (.int .i64 L) := n_w1.cell (by simp [go_sem])
      have b1_w1 : w1.cell? ⟨w.heap.size, 1, none⟩ = some (.int .i64 D) := n_w1.cell (by simp [go_sem])
      have d0_w1 : w1.cell? ⟨w.heap.size + 1, 0, none⟩ = some (.int .i64 0) := n_w1.cell (by simp [go_sem])
      have d1_w1 : w1.cell? ⟨w.heap.size + 1, 1, none⟩ = some (.int .i64 0) := n_w1.cell (by simp [go_sem])
      have f0_w1 : w1.frozen? ⟨w.heap.size + 1, 0, none⟩ = false := n_w1.frz (v := .int .i64 0) (by simp [go_sem]) (by simp [go_sem])
      have f1_w1 : w1.frozen? ⟨w.heap.size + 1, 1, none⟩ = false := n_w1.frz (v := .int .i64 0) (by simp [go_sem]) (by simp [go_sem])
      have N1 := Lib.hid (show New w w1 from New.trans (by repeat (first | with_reducible exact New.refl _ | with_reducible assumption | refine New.drewN ?_ _ | refine New.drew ?_ | refine New.alloc ?_ _ | refine New.setCell ?_ (by first | omega | (simp; omega) | (simp; done)) _ | (refine New.trans ?_ (by assumption)))) n_w1); clear n_w1
      rw [G.out]
      go_wp2_with fail
      refine (ckTime_any _ _).mono ?_
      rintro e w2 ⟨rfl, ee⟩
      have n_w2 : New w1 w2 := ee ▸ New.refl _
      clear ee
      have b0_w2 : w2.cell? ⟨w.heap.size, 0, none⟩ = some (.int .i64 L) := n_w2.cell b0_w1
      have b1_w2 : w2.cell? ⟨w.heap.size, 1, none⟩ = some (.int .i64 D) := n_w2.cell b1_w1
      have d0_w2 : w2.cell? ⟨w.heap.size + 1, 0, none⟩ = some (.int .i64 0) := n_w2.cell d0_w1
      have d1_w2 : w2.cell? ⟨w.heap.size + 1, 1, none⟩ = some (.int .i64 0) := n_w2.cell d1_w1
      have f0_w2 : w2.frozen? ⟨w.heap.size + 1, 0, none⟩ = false := n_w2.frz d0_w1 f0_w1
      have f1_w2 : w2.frozen? ⟨w.heap.size + 1, 1, none⟩ = false := n_w2.frz d1_w1 f1_w1
      have N2 := Lib.hid (N1.out.trans n_w2); clear n_w2 b0_w1 b1_w1 d0_w1 d1_w1 f0_w1 f1_w1
      rw [X.out]
      go_wp2_with fail
      refine (FA.out _).mono ?_
      rintro e w3 ⟨rfl, n_w3⟩
      have d0_w3 : w3.cell? ⟨w.heap.size + 1, 0, none⟩ = some (.int .i64 0) := n_w3.cell d0_w2
      have d1_w3 : w3.cell? ⟨w.heap.size + 1, 1, none⟩ = some (.int .i64 0) := n_w3.cell d1_w2
      have f0_w3 : w3.frozen? ⟨w.heap.size + 1, 0, none⟩ = false := n_w3.frz d0_w2 f0_w2
      have f1_w3 : w3.frozen? ⟨w.heap.size + 1, 1, none⟩ = false := n_w3.frz d1_w2 f1_w2
      have N3 := Lib.hid (N2.out.trans n_w3); clear n_w3 b0_w2 b1_w2 d0_w2 d1_w2 f0_w2 f1_w2
      go_wp2
      refine bodyPost_ret (v := .tuple #[.agg #[.int .i64 (levK D L t.toNat), .int .i64 D], .bool true]) (by simp [results, Try.results9, go_sem, d0_w3, d1_w3]) rfl ⟨by rw [HM.out.1, HM.out.2.1, HM.out.2.2], ?_⟩
      exact (N3.out.setCell (p := ⟨w.heap.size + 1, 0, none⟩) (by simp) _).setCell (p := ⟨w.heap.size + 1, 1, none⟩) (by simp) _
    · have hf := bool_nt hx
      have HM := Lib.hid (show caB L D t = false ∧ caL L D t = 0 ∧ caD L D t = 0 by
        have e : caB L D t = false := by unfold caB; rw [hf]; simp
        exact ⟨e, by unfold caL; rw [e]; rfl, by unfold caD; rw [e]; rfl⟩)
      have X := Lib.hid hf
      clear hg hx hf
      go_enter Try.func9, Try.ntmps9
      go_wp2_with fail
      refine (ckGood_any _ _ _).mono ?_
      rintro e w1 ⟨rfl, n_w1⟩
      have d0_w1 : w1.cell? ⟨w.heap.size + 1, 0, none⟩ = some (.int .i64 0) := n_w1.cell (by simp [go_sem])
      have d1_w1 : w1.cell? ⟨w.heap.size + 1, 1, none⟩ = some (.int .i64 0) := n_w1.cell (by simp [go_sem])
      have f0_w1 : w1.frozen? ⟨w.heap.size + 1, 0, none⟩ = false := n_w1.frz (v := .int .i64 0) (by simp [go_sem]) (by simp [go_sem])
      have f1_w1 : w1.frozen? ⟨w.heap.size + 1, 1, none⟩ = false := n_w1.frz (v := .int .i64 0) (by simp [go_sem]) (by simp [go_sem])
      have N1 := Lib.hid (show New w w1 from New.trans (by repeat (first | with_reducible exact New.refl _ | with_reducible assumption | refine New.drewN ?_ _ | refine New.drew ?_ | refine New.alloc ?_ _ | refine New.setCell ?_ (by first | omega | (simp; omega) | (simp; done)) _ | (refine New.trans ?_ (by assumption)))) n_w1); clear n_w1
      rw [G.out]
      go_wp2_with fail
      refine (ckTime_any _ _).mono ?_
      rintro e w2 ⟨rfl, ee⟩
      have n_w2 : New w1 w2 := ee ▸ New.refl _
      clear ee
      have d0_w2 : w2.cell? ⟨w.heap.size + 1, 0, none⟩ = some (.int .i64 0) := n_w2.cell d0_w1
      have d1_w2 : w2.cell? ⟨w.heap.size + 1, 1, none⟩ = some (.int .i64 0) := n_w2.cell d1_w1
      have f0_w2 : w2.frozen? ⟨w.heap.size + 1, 0, none⟩ = false := n_w2.frz d0_w1 f0_w1
      have f1_w2 : w2.frozen? ⟨w.heap.size + 1, 1, none⟩ = false := n_w2.frz d1_w1 f1_w1
      have N2 := Lib.hid (N1.out.trans n_w2); clear n_w2 d0_w1 d1_w1 f0_w1 f1_w1
      rw [X.out]
      go_wp2
      refine bodyPost_ret (v := .tuple #[.agg #[.int .i64 0, .int .i64 0], .bool false]) (by simp [results, Try.results9, go_sem, d0_w2, d1_w2]) rfl ⟨by rw [HM.out.1, HM.out.2.1, HM.out.2.2], ?_⟩
      exact (N2.out.setCell (p := ⟨w.heap.size + 1, 0, none⟩) (by simp) _).setCell (p := ⟨w.heap.size + 1, 1, none⟩) (by simp) _
  · have hf := bool_nt hg
    have HM := Lib.hid (show caB L D t = false ∧ caL L D t = 0 ∧ caD L D t = 0 by
        have e : caB L D t = false := by unfold caB; rw [hf]; simp
        exact ⟨e, by unfold caL; rw [e]; rfl, by unfold caD; rw [e]; rfl⟩)
    have G := Lib.hid hf
    clear hg hf
    go_enter Try.func9, Try.ntmps9
    go_wp2_with fail
    refine (ckGood_any _ _ _).mono ?_
    rintro e w1 ⟨rfl, n_w1⟩
    have d0_w1 : w1.cell? ⟨w.heap.size + 1, 0, none⟩ = some (.int .i64 0) := n_w1.cell (by simp [go_sem])
    have d1_w1 : w1.cell? ⟨w.heap.size + 1, 1, none⟩ = some (.int .i64 0) := n_w1.cell (by simp [go_sem])
    have f0_w1 : w1.frozen? ⟨w.heap.size + 1, 0, none⟩ = false := n_w1.frz (v := .int .i64 0) (by simp [go_sem]) (by simp [go_sem])
    have f1_w1 : w1.frozen? ⟨w.heap.size + 1, 1, none⟩ = false := n_w1.frz (v := .int .i64 0) (by simp [go_sem]) (by simp [go_sem])
    have N1 := Lib.hid (show New w w1 from New.trans (by repeat (first | with_reducible exact New.refl _ | with_reducible assumption | refine New.drewN ?_ _ | refine New.drew ?_ | refine New.alloc ?_ _ | refine New.setCell ?_ (by first | omega | (simp; omega) | (simp; done)) _ | (refine New.trans ?_ (by assumption)))) n_w1); clear n_w1
    rw [G.out]
    go_wp2
    refine bodyPost_ret (v := .tuple #[.agg #[.int .i64 0, .int .i64 0], .bool false]) (by simp [results, Try.results9, go_sem, d0_w1, d1_w1]) rfl ⟨by rw [HM.out.1, HM.out.2.1, HM.out.2.2], ?_⟩
    exact (N1.out.setCell (p := ⟨w.heap.size + 1, 0, none⟩) (by simp) _).setCell (p := ⟨w.heap.size + 1, 1, none⟩) (by simp) _

theorem levelBehind_any (w : World) (D L t : Int) (oa : Option Addr) (n oc : Nat) (h2 : 1 ≤ D) (h0 : 0 ≤ L) (h1 : L ≤ 1000) (h4 : 0 ≤ t) (h5 : t ≤ 1000000) (hl : Ints w oa n oc (levL D L)) :
    Calls Try.prog 31 #[.slice oa n oc, .int .i64 t] w fun e w' => e = .returned (.int .i64 (levK D L t.toNat)) ∧ New w w' := by
  have hm := tim_le h2 1000 L h0 h1
  have en : n = tim D L + 1 := by rw [hl.1, show (levL D L).length = tim D L + 1 from levTo_length _ _ _]
  have hn : (n : Int) ≤ 1001 := by omega
  have g1 : IntKind.i64.wrap ((n : Int) - 1) = (n : Int) - 1 := i64_in _ (by omega)
  have en0 : 0 < n := by omega
  by_cases ht : (n : Int) - 1 < t
  · have hlev : levK D L t.toNat = (levL D L)[n - 1]?.getD 0 := by
      rw [show (levL D L)[n - 1]?.getD 0 = levK D L (n - 1) from levTo_get D L (by omega), levK_past h2 h0 _ (by omega), levK_past h2 h0 _ (by omega)]
    have hr := hl.at (j := n - 1) (by omega)
    rw [← hlev] at hr
    obtain ⟨b, o, rfl, hc, hb⟩ := hr
    obtain ⟨y, hy⟩ : ∃ y, y = levK D L t.toNat := ⟨_, rfl⟩
    rw [← hy] at hc ⊢
    clear hy hlev en hl
    have h6 : (n : Int) - 1 < n := by omega
    have h7 : ((n : Int) - 1).toNat = n - 1 := by omega
    go_enter Try.func31, Try.ntmps31
    go_wp2
    go_ret
    exact ⟨rfl, New.refl _⟩
  · obtain ⟨k, rfl⟩ := Int.eq_ofNat_of_zero_le h4
    have hk : k < n := by omega
    have hlev : levK D L (k : Int).toNat = (levL D L)[k]?.getD 0 := by
      rw [show (levL D L)[k]?.getD 0 = levK D L k from levTo_get D L (by omega)]
      rfl
    have hr := hl.at hk
    rw [← hlev] at hr
    obtain ⟨b, o, rfl, hc, hb⟩ := hr
    obtain ⟨y, hy⟩ : ∃ y, y = levK D L (k : Int).toNat := ⟨_, rfl⟩
    rw [← hy] at hc ⊢
    clear hy hlev en hl
    go_enter Try.func31, Try.ntmps31
    go_wp2
    go_ret
    exact ⟨rfl, New.refl _⟩
end Go.Proofs.Ytnahlemchajfdaa
