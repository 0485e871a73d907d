/- The ticks in which a scoop is full: the model's and the program's. -/
import Derived.Test.YtjkfedhpgionjaaWh
import Derived.Test.YtjkfedhpgionjaaRows2b
namespace Go.Proofs.Ytjkfedhpgionjaa
open Go.RowKit Go.IntWalk

theorem tos_no {S R V k t : Int} (h : toB S R V k t = false) : tosB S R V k t = false ∧ tosM S R V k t = [] := by
  have e : tosB S R V k t = false := by unfold tosB; rw [h]; rfl
  exact ⟨e, tosM_no e⟩
theorem tos_many {S R V k t : Int} (h : 500 < toN S R V k t) : tosB S R V k t = false ∧ tosM S R V k t = [] := by
  have e : tosB S R V k t = false := by unfold tosB; rw [decide_eq_false (by omega)]; simp
  exact ⟨e, tosM_no e⟩
theorem tos_yes {S R V k t : Int} (h : toB S R V k t = true) (hn : toN S R V k t ≤ 500) : tosB S R V k t = true ∧ tosM S R V k t = tosL (S * fil R V) ((k + 1) * fil R V) (toN S R V k t) := by
  have e : tosB S R V k t = true := by unfold tosB; rw [h, decide_eq_true hn]; rfl
  exact ⟨e, tosM_yes e⟩

set_option maxRecDepth 100000 in
set_option maxHeartbeats 4000000 in
theorem sTimesOfScoop_any (w : World) (S R V k t : Int) :
    Calls Try.prog 25 #[.agg #[.int .i64 S, .int .i64 R, .int .i64 V], .int .i64 k, .int .i64 t] w fun e w' => ∃ oa on oc, e = .returned (.tuple #[.slice oa on oc, .bool (tosB S R V k t)]) ∧ Own w' w.heap.size w'.heap.size oa on oc (tosM S R V k t) ∧ New w w' := by
  by_cases h : whB S R V = true
  · by_cases hk : inB 0 (S - 1) k = true
    · by_cases ht : tmB t = true
      · have q := whB_iff.1 h
        have f := fil_bd ⟨q.1.2.1, q.1.2.2⟩ q.2.1
        have hto : toB S R V k t = true := by unfold toB; rw [h, hk, ht]; rfl
        have YES := Lib.hid (fun hn => tos_yes hto (hn : toN S R V k t ≤ 500))
        have MANY := Lib.hid (fun hn => tos_many (hn : 500 < toN S R V k t))
        have HTT := Lib.hid (show ttW S R V = S * fil R V by unfold ttW; rw [if_pos h])
        have kb := inB_iff.1 hk
        have tb := inB_iff.1 ht
        have H := Lib.hid h; have HK := Lib.hid hk; have HT := Lib.hid ht
        clear h hk ht hto
        obtain ⟨⟨⟨q1, q2⟩, q3, q4⟩, q5, q6⟩ := q
        have FA := Lib.hid (fun w => ckFill_any S R V w q3 q4 q5 q6)
        obtain ⟨i0, hi, hz0, hz1, hz2⟩ := info_parts Try.infoInt
        have m := mul_bd60 (a := S) (b := fil R V) (by omega) (by omega) (by omega) (by omega)
        have ms : S * 1 ≤ S * fil R V := Int.mul_le_mul_of_nonneg_left f.1 (by omega)
        have m' := mul_bd60 (a := k + 1) (b := fil R V) (by omega) (by omega) (by omega) (by omega)
        have ma : (k + 1) * 1 ≤ (k + 1) * fil R V := Int.mul_le_mul_of_nonneg_left f.1 (by omega)
        have m2 : S * fil R V ≤ 60 * 60 := Int.mul_le_mul (by omega) (by omega) (by omega) (by omega)
        have m3 : (k + 1) * fil R V ≤ 60 * 60 := Int.mul_le_mul (by omega) (by omega) (by omega) (by omega)
        have NN := Lib.hid (show toN S R V k t = tosN (S * fil R V) t ((k + 1) * fil R V) from rfl)
        obtain ⟨z, hz⟩ : ∃ z, z = fil R V := ⟨_, rfl⟩
        rw [← hz] at f FA m ms m' ma m2 m3 YES HTT NN
        clear hz
        obtain ⟨s, hs⟩ : ∃ s, s = S * z := ⟨_, rfl⟩
        obtain ⟨a, ha⟩ : ∃ a, a = (k + 1) * z := ⟨_, rfl⟩
        rw [← hs] at m ms m2 YES HTT NN
        rw [← ha] at m' ma m3 YES NN
        have g1 : IntKind.i64.wrap (S * z) = s := by rw [← hs]; exact i64_in _ (by omega)
        have g2 : IntKind.i64.wrap ((k + 1) * z) = a := by rw [← ha]; exact i64_in _ (by omega)
        have k1 : S * z = s := hs.symm
        have k2 : (k + 1) * z = a := ha.symm
        clear hs ha
        have s1 : 1 ≤ s := by omega
        have a1 : 1 ≤ a := by omega
        obtain ⟨n, hn⟩ : ∃ n, n = toN S R V k t := ⟨_, rfl⟩
        rw [← hn] at YES MANY NN
        clear hn
        have LT := Lib.hid (fun j => (tosN_lt s1 (t := t) (a := a) (k := j)))
        rw [← NN.out] at LT
        have hn4 : n ≤ 10000 := by rw [NN.out]; exact tosN_le s1 a1 tb.2
        go_enter Try.func25, Try.ntmps25
        go_wp2_with fail
        refine (ckWheel_any _ _ _ _).mono ?_
        rintro e w1 ⟨rfl, n_w1⟩
        have b0_w1 : w1.cell? ⟨w.heap.size, 0, none⟩ = some (.int .i64 S) := n_w1.cell (by simp [go_sem])
        have b1_w1 : w1.cell? ⟨w.heap.size, 1, none⟩ = some (.int .i64 R) := n_w1.cell (by simp [go_sem])
        have b2_w1 : w1.cell? ⟨w.heap.size, 2, none⟩ = some (.int .i64 V) := n_w1.cell (by simp [go_sem])
        have N1 := Lib.hid (show New w w1 from New.trans (by repeat (first | with_reducible exact New.refl _ | with_reducible assumption | refine New.drewN ?_ _ | refine New.drew ?_ | refine New.alloc ?_ _ | refine New.setCell ?_ (by first | omega | (simp; omega) | (simp; done)) _ | (refine New.trans ?_ (by assumption)))) n_w1); clear n_w1
        rw [H.out]
        go_wp2_with fail
        refine (l1In_any _ _ _ _).mono ?_
        rintro e w9 ⟨rfl, rfl⟩
        rw [HK.out]
        go_wp2_with fail
        refine (ckTime_any _ _).mono ?_
        rintro e w9 ⟨rfl, rfl⟩
        rw [HT.out]
        go_wp2_with fail
        refine (FA.out _).mono ?_
        rintro e w2 ⟨rfl, n_w2⟩
        have b0_w2 : w2.cell? ⟨w.heap.size, 0, none⟩ = some (.int .i64 S) := n_w2.cell b0_w1
        have b1_w2 : w2.cell? ⟨w.heap.size, 1, none⟩ = some (.int .i64 R) := n_w2.cell b1_w1
        have b2_w2 : w2.cell? ⟨w.heap.size, 2, none⟩ = some (.int .i64 V) := n_w2.cell b2_w1
        have zw := World.block_lt_of_cell? _ _ b0_w2
        simp only at zw
        have N2 := Lib.hid (N1.out.trans n_w2); clear n_w2 b0_w1 b1_w1 b2_w1
        go_wp2
        go_loopw [8, 9] (fun vo x wr => ∃ (j : Nat) (x' : Int), j ≤ n ∧ j ≤ 500 ∧ x = .int .i64 x' ∧ x' = a + j * s ∧ 1 ≤ x' ∧ x' ≤ 100000 ∧ New w2 wr ∧ wr.ownsRow w2.heap.size 3 1 vo j ((tosL s a j).map (Value.int .i64))) (fun _ x _ => (10001 - intOf x).toNat)
        case atStart => exact ⟨0, a, Nat.zero_le _, by omega, rfl, by simp, by omega, by omega, New.refl _, World.ownsRow_nil _ _ _ _⟩
        case round =>
          obtain ⟨j, x, hj, h5, rfl, hx, x1, x2, hnw, hro⟩ := hrel
          have NW := Lib.hid hnw; clear hnw
          have RO := Lib.hid hro; clear hro
          have HX := Lib.hid hx; clear hx
          by_cases hlt : x ≤ t
          · have JN := Lib.hid (show j < n by rw [LT.out, ← HX.out]; exact hlt)
            have b0_r : wr.cell? ⟨w.heap.size, 0, none⟩ = some (.int .i64 S) := NW.out.cell b0_w2
            have b1_r : wr.cell? ⟨w.heap.size, 1, none⟩ = some (.int .i64 R) := NW.out.cell b1_w2
            have b2_r : wr.cell? ⟨w.heap.size, 2, none⟩ = some (.int .i64 V) := NW.out.cell b2_w2
            have zb := NW.out.size
            have gs : IntKind.i64.wrap s = s := i64_in _ (by omega)
            have g5 : IntKind.i64.wrap (x + s) = x + s := i64_in _ (by omega)
            by_cases h6 : j < 500
            · have h7 : ¬ (500 < ((j : Int) + 1)) := by omega
              go_wp2_with (at_builtin; (refine wpList_append_lies _ (by rfl) (.tmp 41) (.tmp 43) 42 (by rfl) w2.heap.size 3 i0 (.int .i64 0) 1 8 Try.underlying42 hi hz0 hz1 hz2 rfl (by decide) _ j _ (by rfl) (ownsRow_new RO.out (by repeat (first | with_reducible exact New.refl _ | with_reducible assumption | refine New.drewN ?_ _ | refine New.drew ?_ | refine New.alloc ?_ _ | refine New.setCell ?_ (by first | omega | (simp; omega) | (simp; done)) _ | (refine New.trans ?_ (by assumption))))) _ _ _ [.int .i64 x] (by rfl) (by rfl) (World.news_of_block (cs := #[.int .i64 x]) (t := 3) (fr := (0, 0)) (heap_alloc_at (by simp))) (by simp [Value.oneCell']) (by omega) (by unfold maxLen; omega) (by omega) (by first | omega | (simp; omega) | (simp; done)) _ rfl ?_; intro g cap w3 ho hg hb' hlt'; have N3 := Lib.hid (New.grown (NW.out.trans (by repeat (first | with_reducible exact New.refl _ | with_reducible assumption | refine New.drewN ?_ _ | refine New.drew ?_ | refine New.alloc ?_ _ | refine New.setCell ?_ (by first | omega | (simp; omega) | (simp; done)) _ | (refine New.trans ?_ (by assumption))))) (ownsRow_new RO.out (by repeat (first | with_reducible exact New.refl _ | with_reducible assumption | refine New.drewN ?_ _ | refine New.drew ?_ | refine New.alloc ?_ _ | refine New.setCell ?_ (by first | omega | (simp; omega) | (simp; done)) _ | (refine New.trans ?_ (by assumption))))) (Nat.le_refl _) hg); have RO3 := Lib.hid ho; have b0_3 : w3.cell? ⟨w.heap.size, 0, none⟩ = some (.int .i64 S) := grown_cell (ownsRow_new RO.out (by repeat (first | with_reducible exact New.refl _ | with_reducible assumption | refine New.drewN ?_ _ | refine New.drew ?_ | refine New.alloc ?_ _ | refine New.setCell ?_ (by first | omega | (simp; omega) | (simp; done)) _ | (refine New.trans ?_ (by assumption))))) hg (by simp; omega) (by first | exact b0_r | exact World.cell_kept b0_r); have b1_3 : w3.cell? ⟨w.heap.size, 1, none⟩ = some (.int .i64 R) := grown_cell (ownsRow_new RO.out (by repeat (first | with_reducible exact New.refl _ | with_reducible assumption | refine New.drewN ?_ _ | refine New.drew ?_ | refine New.alloc ?_ _ | refine New.setCell ?_ (by first | omega | (simp; omega) | (simp; done)) _ | (refine New.trans ?_ (by assumption))))) hg (by simp; omega) (by first | exact b1_r | exact World.cell_kept b1_r); have b2_3 : w3.cell? ⟨w.heap.size, 2, none⟩ = some (.int .i64 V) := grown_cell (ownsRow_new RO.out (by repeat (first | with_reducible exact New.refl _ | with_reducible assumption | refine New.drewN ?_ _ | refine New.drew ?_ | refine New.alloc ?_ _ | refine New.setCell ?_ (by first | omega | (simp; omega) | (simp; done)) _ | (refine New.trans ?_ (by assumption))))) hg (by simp; omega) (by first | exact b2_r | exact World.cell_kept b2_r); clear ho hg hb' hlt'))
              have b0_w3 := b0_3
              have b1_w3 := b1_3
              have b2_w3 := b2_3
              clear b0_3 b1_3 b2_3 b0_r b1_r b2_r b0_w2 b1_w2 b2_w2
              go_region_held3 (fun w' => w'.cell? ⟨w.heap.size, 0, none⟩ = some (.int .i64 S) ∧ w'.cell? ⟨w.heap.size, 1, none⟩ = some (.int .i64 R) ∧ w'.cell? ⟨w.heap.size, 2, none⟩ = some (.int .i64 V))
                (first | with_reducible exact ⟨b0_w3, b1_w3, b2_w3⟩ | with_reducible exact ⟨b0_u1, b1_u1, b2_u1⟩ | exact ⟨b0_w3, b1_w3, b2_w3⟩ | fail)
                (first
                  | (go_at_call 41; refine (FA.out _).mono ?_; rintro e u1 ⟨rfl, n_u1⟩; (try replace n_u1 := New.undrew n_u1); have b0_u1 : u1.cell? ⟨w.heap.size, 0, none⟩ = some (.int .i64 S) := n_u1.cell b0_w3; have b1_u1 : u1.cell? ⟨w.heap.size, 1, none⟩ = some (.int .i64 R) := n_u1.cell b1_w3; have b2_u1 : u1.cell? ⟨w.heap.size, 2, none⟩ = some (.int .i64 V) := n_u1.cell b2_w3;  skip))
              have K_u1 := Lib.hid (show New w3 u1 from n_u1); clear n_u1
              have NX := N3.out.trans K_u1.out
              have RX := ownsRow_new RO3.out K_u1.out
              go_roundw
              case rel =>
                refine ⟨_, _, _, _, _, _, _, _, _, _, _, _, _, _, _, _, _, _, _, _, _, ?_, rfl⟩
                refine ⟨j + 1, x + s, JN.out, by omega, rfl, by rw [HX.out]; grind, by omega, by omega, NX, ?_⟩
                rw [tosL_succ, List.map_append, ← HX.out]
                exact RX
              case measure => simp [intOf]; omega
            · have h7 : 500 < ((j : Int) + 1) := by omega
              have NO := Lib.hid (MANY.out (by have := JN.out; omega))
              go_wp2_with (at_builtin; (refine wpList_append_lies _ (by rfl) (.tmp 41) (.tmp 43) 42 (by rfl) w2.heap.size 3 i0 (.int .i64 0) 1 8 Try.underlying42 hi hz0 hz1 hz2 rfl (by decide) _ j _ (by rfl) (ownsRow_new RO.out (by repeat (first | with_reducible exact New.refl _ | with_reducible assumption | refine New.drewN ?_ _ | refine New.drew ?_ | refine New.alloc ?_ _ | refine New.setCell ?_ (by first | omega | (simp; omega) | (simp; done)) _ | (refine New.trans ?_ (by assumption))))) _ _ _ [.int .i64 x] (by rfl) (by rfl) (World.news_of_block (cs := #[.int .i64 x]) (t := 3) (fr := (0, 0)) (heap_alloc_at (by simp))) (by simp [Value.oneCell']) (by omega) (by unfold maxLen; omega) (by omega) (by first | omega | (simp; omega) | (simp; done)) _ rfl ?_; intro g cap w3 ho hg hb' hlt'; have N3 := Lib.hid (New.grown (NW.out.trans (by repeat (first | with_reducible exact New.refl _ | with_reducible assumption | refine New.drewN ?_ _ | refine New.drew ?_ | refine New.alloc ?_ _ | refine New.setCell ?_ (by first | omega | (simp; omega) | (simp; done)) _ | (refine New.trans ?_ (by assumption))))) (ownsRow_new RO.out (by repeat (first | with_reducible exact New.refl _ | with_reducible assumption | refine New.drewN ?_ _ | refine New.drew ?_ | refine New.alloc ?_ _ | refine New.setCell ?_ (by first | omega | (simp; omega) | (simp; done)) _ | (refine New.trans ?_ (by assumption))))) (Nat.le_refl _) hg); have RO3 := Lib.hid ho; clear ho hg hb' hlt'))
              go_ret2
              rw [NO.out.1, NO.out.2]
              exact ⟨_, _, _, rfl, Own.nil _ _ _, N2.out.trans N3.out⟩
          · have hnt : t < x := by omega
            obtain rfl : j = n := by
              have : ¬ j < n := by rw [LT.out, ← HX.out]; exact hlt
              omega
            have HY := Lib.hid (YES.out h5)
            go_wp2
            obtain ⟨oa, oc, e1, o1⟩ := Own.of_row RO.out
            subst e1
            go_ret2
            rw [HY.out.1, HY.out.2]
            exact ⟨_, _, _, rfl, o1.mono N2.out.size (Nat.le_refl _), N2.out.trans NW.out⟩
      · have hf := bool_nt ht
        have NO := Lib.hid (tos_no (show toB S R V k t = false by unfold toB; rw [hf]; simp))
        have kb := inB_iff.1 hk
        obtain ⟨⟨⟨q1, q2⟩, q3, q4⟩, q5, q6⟩ := whB_iff.1 h
        have H := Lib.hid h; have HK := Lib.hid hk; have HT := Lib.hid hf; clear h hk ht hf
        go_enter Try.func25, Try.ntmps25
        go_wp2_with fail
        refine (ckWheel_any _ _ _ _).mono ?_
        rintro e w1 ⟨rfl, n_w1⟩
        have b0_w1 : w1.cell? ⟨w.heap.size, 0, none⟩ = some (.int .i64 S) := n_w1.cell (by simp [go_sem])
        have b1_w1 : w1.cell? ⟨w.heap.size, 1, none⟩ = some (.int .i64 R) := n_w1.cell (by simp [go_sem])
        have b2_w1 : w1.cell? ⟨w.heap.size, 2, none⟩ = some (.int .i64 V) := n_w1.cell (by simp [go_sem])
        have N1 := Lib.hid (show New w w1 from New.trans (by repeat (first | with_reducible exact New.refl _ | with_reducible assumption | refine New.drewN ?_ _ | refine New.drew ?_ | refine New.alloc ?_ _ | refine New.setCell ?_ (by first | omega | (simp; omega) | (simp; done)) _ | (refine New.trans ?_ (by assumption)))) n_w1); clear n_w1
        rw [H.out]
        go_wp2_with fail
        refine (l1In_any _ _ _ _).mono ?_
        rintro e w9 ⟨rfl, rfl⟩
        rw [HK.out]
        go_wp2_with fail
        refine (ckTime_any _ _).mono ?_
        rintro e w9 ⟨rfl, rfl⟩
        rw [HT.out]
        go_wp2
        go_ret2
        rw [NO.out.1, NO.out.2]
        exact ⟨_, _, _, rfl, Own.nil _ _ _, N1.out⟩
    · have hf := bool_nt hk
      have NO := Lib.hid (tos_no (show toB S R V k t = false by unfold toB; rw [hf]; simp))
      have kb := inB_false.1 hf
      obtain ⟨⟨⟨q1, q2⟩, q3, q4⟩, q5, q6⟩ := whB_iff.1 h
      have H := Lib.hid h; have HK := Lib.hid hf; clear h hk hf
      go_enter Try.func25, Try.ntmps25
      go_wp2_with fail
      refine (ckWheel_any _ _ _ _).mono ?_
      rintro e w1 ⟨rfl, n_w1⟩
      have b0_w1 : w1.cell? ⟨w.heap.size, 0, none⟩ = some (.int .i64 S) := n_w1.cell (by simp [go_sem])
      have b1_w1 : w1.cell? ⟨w.heap.size, 1, none⟩ = some (.int .i64 R) := n_w1.cell (by simp [go_sem])
      have b2_w1 : w1.cell? ⟨w.heap.size, 2, none⟩ = some (.int .i64 V) := n_w1.cell (by simp [go_sem])
      have N1 := Lib.hid (show New w w1 from New.trans (by repeat (first | with_reducible exact New.refl _ | with_reducible assumption | refine New.drewN ?_ _ | refine New.drew ?_ | refine New.alloc ?_ _ | refine New.setCell ?_ (by first | omega | (simp; omega) | (simp; done)) _ | (refine New.trans ?_ (by assumption)))) n_w1); clear n_w1
      rw [H.out]
      go_wp2_with fail
      refine (l1In_any _ _ _ _).mono ?_
      rintro e w9 ⟨rfl, rfl⟩
      rw [HK.out]
      go_wp2
      go_ret2
      rw [NO.out.1, NO.out.2]
      exact ⟨_, _, _, rfl, Own.nil _ _ _, N1.out⟩
  · have hf := bool_nt h
    have NO := Lib.hid (tos_no (show toB S R V k t = false by unfold toB; rw [hf]; simp))
    have H := Lib.hid hf; clear h hf
    go_enter Try.func25, Try.ntmps25
    go_wp2_with fail
    refine (ckWheel_any _ _ _ _).mono ?_
    rintro e w1 ⟨rfl, n_w1⟩
    have b0_w1 : w1.cell? ⟨w.heap.size, 0, none⟩ = some (.int .i64 S) := n_w1.cell (by simp [go_sem])
    have b1_w1 : w1.cell? ⟨w.heap.size, 1, none⟩ = some (.int .i64 R) := n_w1.cell (by simp [go_sem])
    have b2_w1 : w1.cell? ⟨w.heap.size, 2, none⟩ = some (.int .i64 V) := n_w1.cell (by simp [go_sem])
    have N1 := Lib.hid (show New w w1 from New.trans (by repeat (first | with_reducible exact New.refl _ | with_reducible assumption | refine New.drewN ?_ _ | refine New.drew ?_ | refine New.alloc ?_ _ | refine New.setCell ?_ (by first | omega | (simp; omega) | (simp; done)) _ | (refine New.trans ?_ (by assumption)))) n_w1); clear n_w1
    rw [H.out]
    go_wp2
    go_ret2
    rw [NO.out.1, NO.out.2]
    exact ⟨_, _, _, rfl, Own.nil _ _ _, N1.out⟩

set_option maxRecDepth 100000 in
set_option maxHeartbeats 4000000 in
theorem iTimesOfScoop_any (w : World) (S R V k t : Int) :
    Calls Try.prog 26 #[.agg #[.int .i64 S, .int .i64 R, .int .i64 V], .int .i64 k, .int .i64 t] w fun e w' => ∃ oa on oc, e = .returned (.tuple #[.slice oa on oc, .bool (tosB S R V k t)]) ∧ Own w' w.heap.size w'.heap.size oa on oc (tosM S R V k t) ∧ New w w' := by
  by_cases h : whB S R V = true
  · by_cases hk : inB 0 (S - 1) k = true
    · by_cases ht : tmB t = true
      · have q := whB_iff.1 h
        have f := fil_bd ⟨q.1.2.1, q.1.2.2⟩ q.2.1
        have hto : toB S R V k t = true := by unfold toB; rw [h, hk, ht]; rfl
        have YES := Lib.hid (fun hn => tos_yes hto (hn : toN S R V k t ≤ 500))
        have MANY := Lib.hid (fun hn => tos_many (hn : 500 < toN S R V k t))
        have HTT := Lib.hid (show ttW S R V = S * fil R V by unfold ttW; rw [if_pos h])
        have kb := inB_iff.1 hk
        have tb := inB_iff.1 ht
        have H := Lib.hid h; have HK := Lib.hid hk; have HT := Lib.hid ht
        clear h hk ht hto
        obtain ⟨⟨⟨q1, q2⟩, q3, q4⟩, q5, q6⟩ := q
        have FA := Lib.hid (fun w => spout_any S R V w q3 q4 q5 q6)
        obtain ⟨i0, hi, hz0, hz1, hz2⟩ := info_parts Try.infoInt
        have m := mul_bd60 (a := S) (b := fil R V) (by omega) (by omega) (by omega) (by omega)
        have ms : S * 1 ≤ S * fil R V := Int.mul_le_mul_of_nonneg_left f.1 (by omega)
        have m' := mul_bd60 (a := k + 1) (b := fil R V) (by omega) (by omega) (by omega) (by omega)
        have ma : (k + 1) * 1 ≤ (k + 1) * fil R V := Int.mul_le_mul_of_nonneg_left f.1 (by omega)
        have m2 : S * fil R V ≤ 60 * 60 := Int.mul_le_mul (by omega) (by omega) (by omega) (by omega)
        have m3 : (k + 1) * fil R V ≤ 60 * 60 := Int.mul_le_mul (by omega) (by omega) (by omega) (by omega)
        have NN := Lib.hid (show toN S R V k t = tosN (S * fil R V) t ((k + 1) * fil R V) from rfl)
        obtain ⟨z, hz⟩ : ∃ z, z = fil R V := ⟨_, rfl⟩
        rw [← hz] at f FA m ms m' ma m2 m3 YES HTT NN
        clear hz
        obtain ⟨s, hs⟩ : ∃ s, s = S * z := ⟨_, rfl⟩
        obtain ⟨a, ha⟩ : ∃ a, a = (k + 1) * z := ⟨_, rfl⟩
        rw [← hs] at m ms m2 YES HTT NN
        rw [← ha] at m' ma m3 YES NN
        have g1 : IntKind.i64.wrap (S * z) = s := by rw [← hs]; exact i64_in _ (by omega)
        have g2 : IntKind.i64.wrap ((k + 1) * z) = a := by rw [← ha]; exact i64_in _ (by omega)
        have k1 : S * z = s := hs.symm
        have k2 : (k + 1) * z = a := ha.symm
        clear hs ha
        have s1 : 1 ≤ s := by omega
        have a1 : 1 ≤ a := by omega
        obtain ⟨n, hn⟩ : ∃ n, n = toN S R V k t := ⟨_, rfl⟩
        rw [← hn] at YES MANY NN
        clear hn
        have LT := Lib.hid (fun j => (tosN_lt s1 (t := t) (a := a) (k := j)))
        rw [← NN.out] at LT
        have hn4 : n ≤ 10000 := by rw [NN.out]; exact tosN_le s1 a1 tb.2
        go_enter Try.func26, Try.ntmps26
        go_wp2_with fail
        refine (iTurnTime_any _ _ _ _).mono ?_
        rintro e w1 ⟨rfl, n_w1⟩
        have b0_w1 : w1.cell? ⟨w.heap.size, 0, none⟩ = some (.int .i64 S) := n_w1.cell (by simp [go_sem])
        have b1_w1 : w1.cell? ⟨w.heap.size, 1, none⟩ = some (.int .i64 R) := n_w1.cell (by simp [go_sem])
        have b2_w1 : w1.cell? ⟨w.heap.size, 2, none⟩ = some (.int .i64 V) := n_w1.cell (by simp [go_sem])
        have N1 := Lib.hid (show New w w1 from New.trans (by repeat (first | with_reducible exact New.refl _ | with_reducible assumption | refine New.drewN ?_ _ | refine New.drew ?_ | refine New.alloc ?_ _ | refine New.setCell ?_ (by first | omega | (simp; omega) | (simp; done)) _ | (refine New.trans ?_ (by assumption)))) n_w1); clear n_w1
        rw [H.out]
        rw [HTT.out]
        go_wp2_with fail
        refine (isTime_any _ _).mono ?_
        rintro e w9 ⟨rfl, rfl⟩
        rw [HT.out]
        go_wp2_with fail
        refine (FA.out _).mono ?_
        rintro e w2 ⟨rfl, n_w2⟩
        have b0_w2 : w2.cell? ⟨w.heap.size, 0, none⟩ = some (.int .i64 S) := n_w2.cell b0_w1
        have b1_w2 : w2.cell? ⟨w.heap.size, 1, none⟩ = some (.int .i64 R) := n_w2.cell b1_w1
        have b2_w2 : w2.cell? ⟨w.heap.size, 2, none⟩ = some (.int .i64 V) := n_w2.cell b2_w1
        have zw := World.block_lt_of_cell? _ _ b0_w2
        simp only at zw
        have N2 := Lib.hid (N1.out.trans n_w2); clear n_w2 b0_w1 b1_w1 b2_w1
        go_wp2
        go_loopw [10, 11] (fun vo x wr => ∃ (j : Nat) (x' : Int), j ≤ n ∧ x = .int .i64 x' ∧ x' = a + j * s ∧ 1 ≤ x' ∧ x' ≤ 100000 ∧ New w2 wr ∧ wr.ownsRow w2.heap.size 3 1 vo j ((tosL s a j).map (Value.int .i64))) (fun _ x _ => (10001 - intOf x).toNat)
        case atStart => exact ⟨0, a, Nat.zero_le _, rfl, by simp, by omega, by omega, New.refl _, World.ownsRow_nil _ _ _ _⟩
        case round =>
          obtain ⟨j, x, hj, rfl, hx, x1, x2, hnw, hro⟩ := hrel
          have NW := Lib.hid hnw; clear hnw
          have RO := Lib.hid hro; clear hro
          have HX := Lib.hid hx; clear hx
          by_cases hlt : x ≤ t
          · have JN := Lib.hid (show j < n by rw [LT.out, ← HX.out]; exact hlt)
            have b0_r : wr.cell? ⟨w.heap.size, 0, none⟩ = some (.int .i64 S) := NW.out.cell b0_w2
            have b1_r : wr.cell? ⟨w.heap.size, 1, none⟩ = some (.int .i64 R) := NW.out.cell b1_w2
            have b2_r : wr.cell? ⟨w.heap.size, 2, none⟩ = some (.int .i64 V) := NW.out.cell b2_w2
            have zb := NW.out.size
            have gs : IntKind.i64.wrap s = s := i64_in _ (by omega)
            have g5 : IntKind.i64.wrap (x + s) = x + s := i64_in _ (by omega)
            go_wp2_with (at_builtin; (refine wpList_append_lies _ (by rfl) (.tmp 45) (.tmp 47) 42 (by rfl) w2.heap.size 3 i0 (.int .i64 0) 1 8 Try.underlying42 hi hz0 hz1 hz2 rfl (by decide) _ j _ (by rfl) (ownsRow_new RO.out (by repeat (first | with_reducible exact New.refl _ | with_reducible assumption | refine New.drewN ?_ _ | refine New.drew ?_ | refine New.alloc ?_ _ | refine New.setCell ?_ (by first | omega | (simp; omega) | (simp; done)) _ | (refine New.trans ?_ (by assumption))))) _ _ _ [.int .i64 x] (by rfl) (by rfl) (World.news_of_block (cs := #[.int .i64 x]) (t := 3) (fr := (0, 0)) (heap_alloc_at (by simp))) (by simp [Value.oneCell']) (by omega) (by unfold maxLen; omega) (by omega) (by first | omega | (simp; omega) | (simp; done)) _ rfl ?_; intro g cap w3 ho hg hb' hlt'; have N3 := Lib.hid (New.grown (NW.out.trans (by repeat (first | with_reducible exact New.refl _ | with_reducible assumption | refine New.drewN ?_ _ | refine New.drew ?_ | refine New.alloc ?_ _ | refine New.setCell ?_ (by first | omega | (simp; omega) | (simp; done)) _ | (refine New.trans ?_ (by assumption))))) (ownsRow_new RO.out (by repeat (first | with_reducible exact New.refl _ | with_reducible assumption | refine New.drewN ?_ _ | refine New.drew ?_ | refine New.alloc ?_ _ | refine New.setCell ?_ (by first | omega | (simp; omega) | (simp; done)) _ | (refine New.trans ?_ (by assumption))))) (Nat.le_refl _) hg); have RO3 := Lib.hid ho; clear ho hg hb' hlt'))
            have NX := N3.out
            have RX := RO3.out
            go_roundw
            case rel =>
              refine ⟨j + 1, x + s, JN.out, rfl, by rw [HX.out]; grind, by omega, by omega, NX, ?_⟩
              rw [tosL_succ, List.map_append, ← HX.out]
              exact RX
            case measure => simp [intOf]; omega
          · have hnt : t < x := by omega
            obtain rfl : j = n := by
              have : ¬ j < n := by rw [LT.out, ← HX.out]; exact hlt
              omega
            obtain ⟨oa, oc, e1, o1⟩ := Own.of_row RO.out
            subst e1
            have O1 := Lib.hid o1; clear o1
            by_cases h6 : j ≤ 500
            · have HY := Lib.hid (YES.out h6)
              have h7 : ¬ (500 < (j : Int)) := by omega
              go_wp2
              go_ret2
              rw [HY.out.1, HY.out.2]
              exact ⟨_, _, _, rfl, O1.out.mono N2.out.size (Nat.le_refl _), N2.out.trans NW.out⟩
            · have NO := Lib.hid (MANY.out (by omega))
              have h7 : 500 < (j : Int) := by omega
              go_wp2
              go_ret2
              rw [NO.out.1, NO.out.2]
              exact ⟨_, _, _, rfl, Own.nil _ _ _, N2.out.trans NW.out⟩
      · have hf := bool_nt ht
        have NO := Lib.hid (tos_no (show toB S R V k t = false by unfold toB; rw [hf]; simp))
        have kb := inB_iff.1 hk
        obtain ⟨⟨⟨q1, q2⟩, q3, q4⟩, q5, q6⟩ := whB_iff.1 h
        have H := Lib.hid h; have HK := Lib.hid hk; have HT := Lib.hid hf; clear h hk ht hf
        obtain ⟨kb1, kb2⟩ := kb
        have kb3 : k < S := by omega
        go_enter Try.func26, Try.ntmps26
        go_wp2_with fail
        refine (iTurnTime_any _ _ _ _).mono ?_
        rintro e w1 ⟨rfl, n_w1⟩
        have b0_w1 : w1.cell? ⟨w.heap.size, 0, none⟩ = some (.int .i64 S) := n_w1.cell (by simp [go_sem])
        have b1_w1 : w1.cell? ⟨w.heap.size, 1, none⟩ = some (.int .i64 R) := n_w1.cell (by simp [go_sem])
        have b2_w1 : w1.cell? ⟨w.heap.size, 2, none⟩ = some (.int .i64 V) := n_w1.cell (by simp [go_sem])
        have N1 := Lib.hid (show New w w1 from New.trans (by repeat (first | with_reducible exact New.refl _ | with_reducible assumption | refine New.drewN ?_ _ | refine New.drew ?_ | refine New.alloc ?_ _ | refine New.setCell ?_ (by first | omega | (simp; omega) | (simp; done)) _ | (refine New.trans ?_ (by assumption)))) n_w1); clear n_w1
        rw [H.out]
        go_wp2_with fail
        refine (isTime_any _ _).mono ?_
        rintro e w9 ⟨rfl, rfl⟩
        rw [HT.out]
        go_wp2
        go_ret2
        rw [NO.out.1, NO.out.2]
        exact ⟨_, _, _, rfl, Own.nil _ _ _, N1.out⟩
    · have hf := bool_nt hk
      have NO := Lib.hid (tos_no (show toB S R V k t = false by unfold toB; rw [hf]; simp))
      have kb := inB_false.1 hf
      obtain ⟨⟨⟨q1, q2⟩, q3, q4⟩, q5, q6⟩ := whB_iff.1 h
      have H := Lib.hid h; have HK := Lib.hid hf; clear h hk hf
      by_cases k0 : k < 0
      · go_enter Try.func26, Try.ntmps26
        go_wp2_with fail
        refine (iTurnTime_any _ _ _ _).mono ?_
        rintro e w1 ⟨rfl, n_w1⟩
        have b0_w1 : w1.cell? ⟨w.heap.size, 0, none⟩ = some (.int .i64 S) := n_w1.cell (by simp [go_sem])
        have b1_w1 : w1.cell? ⟨w.heap.size, 1, none⟩ = some (.int .i64 R) := n_w1.cell (by simp [go_sem])
        have b2_w1 : w1.cell? ⟨w.heap.size, 2, none⟩ = some (.int .i64 V) := n_w1.cell (by simp [go_sem])
        have N1 := Lib.hid (show New w w1 from New.trans (by repeat (first | with_reducible exact New.refl _ | with_reducible assumption | refine New.drewN ?_ _ | refine New.drew ?_ | refine New.alloc ?_ _ | refine New.setCell ?_ (by first | omega | (simp; omega) | (simp; done)) _ | (refine New.trans ?_ (by assumption)))) n_w1); clear n_w1
        rw [H.out]
        go_wp2
        go_ret2
        rw [NO.out.1, NO.out.2]
        exact ⟨_, _, _, rfl, Own.nil _ _ _, N1.out⟩
      · have k1 : S ≤ k := by omega
        clear kb
        go_enter Try.func26, Try.ntmps26
        go_wp2_with fail
        refine (iTurnTime_any _ _ _ _).mono ?_
        rintro e w1 ⟨rfl, n_w1⟩
        have b0_w1 : w1.cell? ⟨w.heap.size, 0, none⟩ = some (.int .i64 S) := n_w1.cell (by simp [go_sem])
        have b1_w1 : w1.cell? ⟨w.heap.size, 1, none⟩ = some (.int .i64 R) := n_w1.cell (by simp [go_sem])
        have b2_w1 : w1.cell? ⟨w.heap.size, 2, none⟩ = some (.int .i64 V) := n_w1.cell (by simp [go_sem])
        have N1 := Lib.hid (show New w w1 from New.trans (by repeat (first | with_reducible exact New.refl _ | with_reducible assumption | refine New.drewN ?_ _ | refine New.drew ?_ | refine New.alloc ?_ _ | refine New.setCell ?_ (by first | omega | (simp; omega) | (simp; done)) _ | (refine New.trans ?_ (by assumption)))) n_w1); clear n_w1
        rw [H.out]
        go_wp2
        go_ret2
        rw [NO.out.1, NO.out.2]
        exact ⟨_, _, _, rfl, Own.nil _ _ _, N1.out⟩
  · have hf := bool_nt h
    have NO := Lib.hid (tos_no (show toB S R V k t = false by unfold toB; rw [hf]; simp))
    have H := Lib.hid hf; clear h hf
    go_enter Try.func26, Try.ntmps26
    go_wp2_with fail
    refine (iTurnTime_any _ _ _ _).mono ?_
    rintro e w1 ⟨rfl, n_w1⟩
    have b0_w1 : w1.cell? ⟨w.heap.size, 0, none⟩ = some (.int .i64 S) := n_w1.cell (by simp [go_sem])
    have b1_w1 : w1.cell? ⟨w.heap.size, 1, none⟩ = some (.int .i64 R) := n_w1.cell (by simp [go_sem])
    have b2_w1 : w1.cell? ⟨w.heap.size, 2, none⟩ = some (.int .i64 V) := n_w1.cell (by simp [go_sem])
    have N1 := Lib.hid (show New w w1 from New.trans (by repeat (first | with_reducible exact New.refl _ | with_reducible assumption | refine New.drewN ?_ _ | refine New.drew ?_ | refine New.alloc ?_ _ | refine New.setCell ?_ (by first | omega | (simp; omega) | (simp; done)) _ | (refine New.trans ?_ (by assumption)))) n_w1); clear n_w1
    rw [H.out]
    go_wp2
    go_ret2
    rw [NO.out.1, NO.out.2]
    exact ⟨_, _, _, rfl, Own.nil _ _ _, N1.out⟩
end Go.Proofs.Ytjkfedhpgionjaa
