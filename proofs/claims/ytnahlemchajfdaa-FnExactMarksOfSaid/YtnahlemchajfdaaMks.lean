/- MarksOf: the model's. -/
import Derived.Test.YtnahlemchajfdaaLev
import Derived.Test.YtnahlemchajfdaaAll
import Derived.Deep.RegionHeld3
import Derived.Deep.DeepCutAuto
namespace Go.Proofs.Ytnahlemchajfdaa
open Go.RowKit Go.IntWalk

def mkL (D L : Int) (h n : Nat) : List Int := (List.range n).map fun i => levK D L ((i + 1) * tim D L / h)
theorem mkL_length (D L : Int) (h n : Nat) : (mkL D L h n).length = n := by simp [mkL]
theorem mkL_succ (D L : Int) (h n : Nat) : mkL D L h (n + 1) = mkL D L h n ++ [levK D L ((n + 1) * tim D L / h)] := by simp [mkL, List.range_succ]
def moB (L D h : Int) : Bool := ckB L D && (inB 1 24 h && decide (h ≤ (tim D L : Nat)))
def moM (L D h : Int) : List Int := if moB L D h then mkL D L h.toNat h.toNat else []
theorem moM_small (L D h : Int) : (moM L D h).length ≤ 1048576 := by
  unfold moM
  split
  · rename_i k
    unfold moB at k
    simp only [Bool.and_eq_true, inB_iff] at k
    rw [mkL_length]; omega
  · simp

set_option maxRecDepth 100000 in
set_option maxHeartbeats 4000000 in
theorem sMarksOf_any (w : World) (L D h : Int) :
    Calls Try.prog 22 #[.agg #[.int .i64 L, .int .i64 D], .int .i64 h] w fun e w' => ∃ oa n oc, e = .returned (.tuple #[.slice oa n oc, .bool (moB L D h)]) ∧ Own w' w.heap.size w'.heap.size oa n oc (moM L D h) ∧ New w w' := by
  obtain ⟨i0, hi, hz0, hz1, hz2⟩ := info_parts Try.infoInt
  by_cases hg : ckB L D = true
  · by_cases hi24 : inB 1 24 h = true
    · have q := ckB_iff.1 hg
      have r := inB_iff.1 hi24
      obtain ⟨hh, eh⟩ : ∃ hh : Nat, h = (hh : Int) := ⟨h.toNat, by omega⟩
      subst eh
      have ht := Lib.hid (tim_le (D := D) (by omega) 1000 L (by omega) (by omega))
      by_cases hle : (hh : Int) ≤ (tim D L : Nat)
      · have HM := Lib.hid (show moB L D hh = true ∧ moM L D hh = mkL D L hh hh by
          have e : moB L D hh = true := by unfold moB; rw [hg, hi24, decide_eq_true hle]; rfl
          exact ⟨e, by unfold moM; rw [if_pos e, Int.toNat_natCast]⟩)
        have FA := Lib.hid (fun w => ckLevels_any w L D q.1.1 q.1.2 q.2.1 q.2.2)
        have LVL := Lib.hid (show levL D L = levTo D L (tim D L + 1) from rfl)
        have MS := Lib.hid (fun n => mkL_succ D L hh n)
        have G := Lib.hid hg
        have I := Lib.hid hi24
        obtain ⟨T, hT⟩ : ∃ T, T = tim D L := ⟨_, rfl⟩
        rw [← hT] at ht hle FA LVL MS
        have TT := Lib.hid hT; clear hT
        have ht' := ht.out
        obtain ⟨N, eN⟩ : ∃ N, N = T + 1 := ⟨_, rfl⟩
        rw [← eN] at FA LVL
        have gN : IntKind.i64.wrap ((N : Int) - 1) = (T : Int) := by rw [eN]; rw [i64_in _ (by omega)]; omega
        have nlt : ¬ (T : Int) < hh := by omega
        clear hg hi24
        go_enter Try.func22, Try.ntmps22
        go_wp2_with fail
        refine (ckGood_any _ _ _).mono ?_
        rintro e w1 ⟨rfl, n_w1⟩
        have b0_w1 : w1.cell? ⟨w.heap.size, 0, none⟩ = some (.int .i64 L) := n_w1.cell (by simp [go_sem])
        have b1_w1 : w1.cell? ⟨w.heap.size, 1, none⟩ = some (.int .i64 D) := n_w1.cell (by simp [go_sem])
        have N1 := Lib.hid (show New w w1 from New.trans (by repeat (first | with_reducible exact New.refl _ | with_reducible assumption | refine New.drewN ?_ _ | refine New.drew ?_ | refine New.alloc ?_ _ | refine New.setCell ?_ (by first | omega | (simp; omega) | (simp; done)) _ | (refine New.trans ?_ (by assumption)))) n_w1); clear n_w1
        rw [G.out]
        go_wp2_with fail
        refine (l1In_any _ _ _ _).mono ?_
        rintro e w9 ⟨rfl, rfl⟩
        rw [I.out]
        go_wp2_with fail
        refine (FA.out _).mono ?_
        rintro e w2 ⟨pa, pc, rfl, own, n_w2⟩
        have N2 := Lib.hid (N1.out.trans n_w2); clear n_w2 b0_w1 b1_w1
        have OW := Lib.hid own; clear own
        go_wp2
        rw [show decide (T < hh) = false from decide_eq_false (by omega)]
        go_loopw [7, 8] (fun vo x wr => ∃ (j : Nat) (k : Int), j ≤ hh ∧ x = .int .i64 k ∧ k = (j : Int) + 1 ∧ New w2 wr ∧ wr.ownsRow w2.heap.size 3 1 vo j ((mkL D L hh j).map (Value.int .i64))) (fun _ x _ => (100 - intOf x).toNat)
        case atStart => exact ⟨0, 1, Nat.zero_le _, rfl, by simp, New.refl _, World.ownsRow_nil _ _ _ _⟩
        case round =>
          obtain ⟨j, k, hj, rfl, hk, hnw, hro⟩ := hrel
          have NW := Lib.hid hnw; clear hnw
          have RO := Lib.hid hro; clear hro
          by_cases hlt : j < hh
          · have hk' : k ≤ (hh : Int) := by omega
            have h0 : ¬ (hh : Int) = 0 := by omega
            obtain ⟨m, hm⟩ : ∃ m, m = (j + 1) * T / hh := ⟨_, rfl⟩
            have mT : m ≤ T := by rw [hm]; exact Nat.div_le_of_le_mul (Nat.mul_le_mul_right _ (by omega))
            have pT : (j + 1) * T ≤ 24 * 1000 := Nat.mul_le_mul (by omega) ht'
            have e1 : ((j : Int) + 1) * (T : Int) = (((j + 1) * T : Nat) : Int) := by push_cast; rfl
            have gp : IntKind.i64.wrap (k * (T : Int)) = (((j + 1) * T : Nat) : Int) := by rw [hk, e1]; exact i64_in _ (by omega)
            have gd : IntKind.i64.wrap (((((j + 1) * T : Nat) : Int)).tdiv (hh : Int)) = (m : Int) := by
              rw [Int.tdiv_eq_ediv_of_nonneg (by omega), ← Int.natCast_ediv, ← hm]; exact i64_in _ (by omega)
            obtain ⟨p, hp⟩ : ∃ p : Int, p = (((j + 1) * T : Nat) : Int) := ⟨_, rfl⟩
            rw [← hp] at gp gd
            have mN : (m : Int) < (N : Int) := by omega
            have gk : IntKind.i64.wrap (k + 1) = k + 1 := i64_in _ (by omega)
            have hl := (OW.out.new NW.out).ints
            obtain ⟨b, o, rfl, hc, hb⟩ := hl.at (j := m) (by omega)
            rw [LVL.out, levTo_get D L (show m < N by omega)] at hc
            obtain ⟨y, hy⟩ : ∃ y, y = levK D L m := ⟨_, rfl⟩
            rw [← hy] at hc
            clear hl
            have HY := Lib.hid hy; clear hy
            have HMm := Lib.hid hm; clear hm
            have HP := Lib.hid hp; clear hp
            have HK := Lib.hid hk; clear hk
            have zb := NW.out.size
            go_wp2_with (at_builtin; (refine wpList_append_lies _ (by rfl) (.tmp 29) (.tmp 40) 30 (by rfl) w2.heap.size 3 i0 (.int .i64 0) 1 8 Try.underlying30 hi hz0 hz1 hz2 rfl (by decide) _ j _ (by rfl) (ownsRow_new RO.out (by repeat (first | with_reducible exact New.refl _ | with_reducible assumption | refine New.drewN ?_ _ | refine New.drew ?_ | refine New.alloc ?_ _ | refine New.setCell ?_ (by first | omega | (simp; omega) | (simp; done)) _ | (refine New.trans ?_ (by assumption))))) _ _ _ [.int .i64 y] (by rfl) (by rfl) (World.news_of_block (cs := #[.int .i64 y]) (t := 3) (fr := (0, 0)) (heap_alloc_at (by simp))) (by simp [Value.oneCell']) (by omega) (by unfold maxLen; omega) (by omega) (by first | omega | (simp; omega) | (simp; done)) _ rfl ?_; intro g cap w3 ho hg hb' hlt'; have N3 := Lib.hid (New.grown (NW.out.trans (by repeat (first | with_reducible exact New.refl _ | with_reducible assumption | refine New.drewN ?_ _ | refine New.drew ?_ | refine New.alloc ?_ _ | refine New.setCell ?_ (by first | omega | (simp; omega) | (simp; done)) _ | (refine New.trans ?_ (by assumption))))) (ownsRow_new RO.out (by repeat (first | with_reducible exact New.refl _ | with_reducible assumption | refine New.drewN ?_ _ | refine New.drew ?_ | refine New.alloc ?_ _ | refine New.setCell ?_ (by first | omega | (simp; omega) | (simp; done)) _ | (refine New.trans ?_ (by assumption))))) (Nat.le_refl _) hg); have RO3 := Lib.hid ho; clear ho hg hb' hlt'))
            go_roundw
            case rel =>
              refine ⟨j + 1, k + 1, by omega, rfl, by rw [HK.out]; push_cast; rfl, N3.out, ?_⟩
              rw [MS.out, List.map_append, ← HMm.out, ← HY.out]
              exact RO3.out
            case measure => simp [intOf]; have := HK.out; omega
          · have hk' : (hh : Int) < k := by omega
            obtain rfl : j = hh := by omega
            go_wp2
            obtain ⟨oa, oc, e1, o1⟩ := Own.of_row RO.out
            subst e1
            go_ret2
            rw [HM.out.1, HM.out.2]
            exact ⟨_, _, _, rfl, o1.mono N2.out.size (Nat.le_refl _), N2.out.trans NW.out⟩
      · have HM := Lib.hid (show moB L D hh = false ∧ moM L D hh = [] by
          have e : moB L D hh = false := by unfold moB; rw [hg, hi24, decide_eq_false hle]; rfl
          exact ⟨e, by unfold moM; rw [e]; rfl⟩)
        have FA := Lib.hid (fun w => ckLevels_any w L D q.1.1 q.1.2 q.2.1 q.2.2)
        have G := Lib.hid hg
        have I := Lib.hid hi24
        obtain ⟨T, hT⟩ : ∃ T, T = tim D L := ⟨_, rfl⟩
        rw [← hT] at ht hle FA
        clear hT
        have ht' := ht.out
        have nlt : (T : Int) < hh := by omega
        clear hg hi24 hle
        go_enter Try.func22, Try.ntmps22
        go_wp2_with fail
        refine (ckGood_any _ _ _).mono ?_
        rintro e w1 ⟨rfl, n_w1⟩
        have b0_w1 : w1.cell? ⟨w.heap.size, 0, none⟩ = some (.int .i64 L) := n_w1.cell (by simp [go_sem])
        have b1_w1 : w1.cell? ⟨w.heap.size, 1, none⟩ = some (.int .i64 D) := n_w1.cell (by simp [go_sem])
        have N1 := Lib.hid (show New w w1 from New.trans (by repeat (first | with_reducible exact New.refl _ | with_reducible assumption | refine New.drewN ?_ _ | refine New.drew ?_ | refine New.alloc ?_ _ | refine New.setCell ?_ (by first | omega | (simp; omega) | (simp; done)) _ | (refine New.trans ?_ (by assumption)))) n_w1); clear n_w1
        rw [G.out]
        go_wp2_with fail
        refine (l1In_any _ _ _ _).mono ?_
        rintro e w9 ⟨rfl, rfl⟩
        rw [I.out]
        go_wp2_with fail
        refine (FA.out _).mono ?_
        rintro e w2 ⟨pa, pc, rfl, own, n_w2⟩
        have N2 := Lib.hid (N1.out.trans n_w2); clear n_w2 b0_w1 b1_w1 own
        go_wp2
        go_ret2
        rw [HM.out.1, HM.out.2]
        exact ⟨_, _, _, rfl, Own.nil _ _ _, N2.out⟩
    · have hf := bool_nt hi24
      have HM := Lib.hid (show moB L D h = false ∧ moM L D h = [] by
          have e : moB L D h = false := by unfold moB; rw [hg, hf]; rfl
          exact ⟨e, by unfold moM; rw [e]; rfl⟩)
      have G := Lib.hid hg
      have I := Lib.hid hf
      clear hg hi24 hf
      go_enter Try.func22, Try.ntmps22
      go_wp2_with fail
      refine (ckGood_any _ _ _).mono ?_
      rintro e w1 ⟨rfl, n_w1⟩
      have N1 := Lib.hid (show New w w1 from New.trans (by repeat (first | with_reducible exact New.refl _ | with_reducible assumption | refine New.drewN ?_ _ | refine New.drew ?_ | refine New.alloc ?_ _ | refine New.setCell ?_ (by first | omega | (simp; omega) | (simp; done)) _ | (refine New.trans ?_ (by assumption)))) n_w1); clear n_w1
      rw [G.out]
      go_wp2_with fail
      refine (l1In_any _ _ _ _).mono ?_
      rintro e w9 ⟨rfl, rfl⟩
      rw [I.out]
      go_wp2
      go_ret2
      rw [HM.out.1, HM.out.2]
      exact ⟨_, _, _, rfl, Own.nil _ _ _, N1.out⟩
  · have hf := bool_nt hg
    have HM := Lib.hid (show moB L D h = false ∧ moM L D h = [] by
        have e : moB L D h = false := by unfold moB; rw [hf]; rfl
        exact ⟨e, by unfold moM; rw [e]; rfl⟩)
    have G := Lib.hid hf
    clear hg hf
    go_enter Try.func22, Try.ntmps22
    go_wp2_with fail
    refine (ckGood_any _ _ _).mono ?_
    rintro e w1 ⟨rfl, n_w1⟩
    have N1 := Lib.hid (show New w w1 from New.trans (by repeat (first | with_reducible exact New.refl _ | with_reducible assumption | refine New.drewN ?_ _ | refine New.drew ?_ | refine New.alloc ?_ _ | refine New.setCell ?_ (by first | omega | (simp; omega) | (simp; done)) _ | (refine New.trans ?_ (by assumption)))) n_w1); clear n_w1
    rw [G.out]
    go_wp2
    go_ret2
    rw [HM.out.1, HM.out.2]
    exact ⟨_, _, _, rfl, Own.nil _ _ _, N1.out⟩
end Go.Proofs.Ytnahlemchajfdaa
