/- LeastLevelFor: the model's and the program's. -/
import Derived.Test.YtjkfedhpgionjaaLev
namespace Go.Proofs.Ytjkfedhpgionjaa
open Go.RowKit Go.IntWalk

theorem tmZero : (Try.prog.info? 53).bind (·.zero) = some (.agg (Array.replicate 1001 (.int .i64 0))) := by kernel_rfl
theorem tmZero_run (w : World) : (zeroValue 53).run Try.prog w = .ok (.agg (Array.replicate 1001 (.int .i64 0))) w := by
  have h := tmZero
  cases e : Try.prog.info? 53 with
  | none => rw [e] at h; cases h
  | some i =>
    rw [e] at h
    simp only [Option.bind_some] at h
    simp [zeroValue, typeInfo, go_sem, e, h]

/-- An array of 1001 integers at the block B. -/
structure Arr (w : World) (B : Nat) (f : Nat → Int) : Prop where
  cell : ∀ k : Nat, k < 1001 → w.cell? ⟨B, k, none⟩ = some (.int .i64 (f k))
  warm : ∀ k : Nat, w.frozen? ⟨B, k, none⟩ = false
theorem Arr.fresh (w : World) (zs : Array Value) (hz : zs = Array.replicate 1001 (.int .i64 0)) (t : TypeId) : Arr (w.alloc (.cells zs t)) w.heap.size (fun _ => 0) :=
  ⟨fun k hk => by simp [hz, hk], fun k => by simp⟩
theorem Arr.set {w : World} {B : Nat} {f : Nat → Int} (h : Arr w B f) (q : Nat) (hq : q < 1001) (x : Int) : Arr (w.setCell ⟨B, q, none⟩ (.int .i64 x)) B (fun k => if k = q then x else f k) := by
  refine ⟨fun k hk => ?_, fun k => by rw [World.frozen?_setCell]; exact h.warm k⟩
  by_cases e : k = q
  · subst e
    simp only [if_true]
    exact set_same (h.cell k hk)
  · simp only [e, if_false]
    rw [set_other (by simp; try omega)]
    exact h.cell k hk

set_option maxRecDepth 100000 in
set_option maxHeartbeats 2000000 in
theorem sLeastLevelFor_any (w : World) (D t : Int) :
    Calls Try.prog 16 #[.int .i64 D, .int .i64 t] w fun e w' => e = .returned (.tuple #[.int .i64 (llM D t), .bool (llB D t)]) ∧ New w w' := by
  by_cases h2 : inB 1 100 D = true
  · by_cases h3 : tmB t = true
    · have YES := Lib.hid (fun k => ll_yes (k := k) h2 h3)
      have NONE := Lib.hid (ll_no (D := D) (t := t))
      obtain ⟨d1, d2⟩ := inB_iff.1 h2
      have H2 := Lib.hid h2; have H3 := Lib.hid h3; clear h2 h3
      go_enter Try.func16, Try.ntmps16
      go_wp2_with fail
      refine (l1In_any _ _ _ _).mono ?_
      rintro e w1 ⟨rfl, rfl⟩
      rw [H2.out]
      go_wp2_with fail
      refine (ckTime_any _ _).mono ?_
      rintro e w1 ⟨rfl, rfl⟩
      rw [H3.out]
      go_wp2
      go_loopw [6] (fun x wr => ∃ j : Nat, j ≤ 1001 ∧ x = .int .i64 (j : Int) ∧ (∀ i : Nat, i < j → (tim D i : Int) < t) ∧ New w wr) (fun x _ => 1001 - (intOf x).toNat)
      case atStart => exact ⟨0, by omega, rfl, fun i hi => absurd hi (by omega), New.refl _⟩
      case round =>
        obtain ⟨j, hj, rfl, hpre, hnw⟩ := hrel
        have NW := Lib.hid hnw; clear hnw
        have HP := Lib.hid hpre; clear hpre
        by_cases hlt : j ≤ 1000
        · have KA := Lib.hid (fun w => ckEmpty_any w (j : Int) D (by omega) (by omega) d1 d2)
          have tb := tim_le d1 1000 (j : Int) (by omega) (by omega)
          have YJ := Lib.hid (fun h => YES.out j hlt h HP.out)
          have HS := Lib.hid (fun (h : (tim D (j : Int) : Int) < t) (i : Nat) (hi : i < j + 1) => show (tim D (i : Int) : Int) < t from by
            by_cases e : i = j
            · subst e; exact h
            · exact HP.out i (by omega))
          obtain ⟨n, en⟩ : ∃ n, n = tim D (j : Int) := ⟨_, rfl⟩
          rw [← en] at KA tb YJ HS
          clear en
          by_cases hc : t ≤ (n : Int)
          · have Y := Lib.hid (YJ.out hc)
            go_wp2_with fail
            refine (KA.out _).mono ?_
            rintro e w1 ⟨rfl, n1⟩
            go_wp2
            go_ret2
            exact ⟨by rw [Y.out.1, Y.out.2]; rfl, NW.out.trans n1⟩
          · go_wp2_with fail
            refine (KA.out _).mono ?_
            rintro e w1 ⟨rfl, n1⟩
            go_wp2
            go_roundw
            case rel => exact ⟨j + 1, by omega, by go_num, HS.out (by omega), NW.out.trans n1⟩
            case measure => simp [intOf]; omega
        · have Y := Lib.hid (NONE.out (fun i hi => HP.out i (by omega)))
          go_wp2
          go_ret2
          exact ⟨by rw [Y.out.1, Y.out.2]; rfl, NW.out⟩
    · have hf := bool_nt h3
      have Y := Lib.hid (ll_bad (D := D) (t := t) (by rw [hf]; simp))
      have H2 := Lib.hid h2; have H3 := Lib.hid hf; clear h2 h3 hf
      go_enter Try.func16, Try.ntmps16
      go_wp2_with fail
      refine (l1In_any _ _ _ _).mono ?_
      rintro e w1 ⟨rfl, rfl⟩
      rw [H2.out]
      go_wp2_with fail
      refine (ckTime_any _ _).mono ?_
      rintro e w1 ⟨rfl, rfl⟩
      rw [H3.out]
      go_wp2
      go_ret2
      exact ⟨by rw [Y.out.1, Y.out.2]; rfl, New.refl _⟩
  · have hf := bool_nt h2
    have Y := Lib.hid (ll_bad (D := D) (t := t) (by rw [hf]; simp))
    have H2 := Lib.hid hf; clear h2 hf
    go_enter Try.func16, Try.ntmps16
    go_wp2_with fail
    refine (l1In_any _ _ _ _).mono ?_
    rintro e w1 ⟨rfl, rfl⟩
    rw [H2.out]
    go_wp2
    go_ret2
    exact ⟨by rw [Y.out.1, Y.out.2]; rfl, New.refl _⟩

set_option maxRecDepth 100000 in
set_option maxHeartbeats 2000000 in
theorem iLeastLevelFor_any (w : World) (D t : Int) :
    Calls Try.prog 17 #[.int .i64 D, .int .i64 t] w fun e w' => e = .returned (.tuple #[.int .i64 (llM D t), .bool (llB D t)]) ∧ New w w' := by
  by_cases h2 : inB 1 100 D = true
  · by_cases h3 : tmB t = true
    · have YES := Lib.hid (fun k => ll_yes (k := k) h2 h3)
      have NONE := Lib.hid (ll_no (D := D) (t := t))
      obtain ⟨d1, d2⟩ := inB_iff.1 h2
      have tb := inB_iff.1 h3
      have H2 := Lib.hid h2; have H3 := Lib.hid h3; clear h2 h3
      by_cases tz : t = 0
      · subst tz
        have Y := Lib.hid (YES.out 0 (by omega) (Int.natCast_nonneg _) (fun j hj => absurd hj (by omega)))
        go_enter Try.func17, Try.ntmps17
        go_wp2_with fail
        refine (isDivide_any _ _).mono ?_
        rintro e w1 ⟨rfl, rfl⟩
        rw [H2.out]
        go_wp2_with fail
        refine (isTime_any _ _).mono ?_
        rintro e w1 ⟨rfl, rfl⟩
        rw [H3.out]
        go_wp2
        go_ret2
        exact ⟨by rw [Y.out.1, Y.out.2]; rfl, New.refl _⟩
      · have tb0 : (t == 0) = false := by simpa using tz
        obtain ⟨zs, ez⟩ : ∃ zs : Array Value, zs = Array.replicate 1001 (.int .i64 0) := ⟨_, rfl⟩
        have hzr := tmZero_run
        rw [← ez] at hzr
        have EZ := Lib.hid ez; clear ez
        go_enter Try.func17, Try.ntmps17
        go_wp2_with fail
        refine (isDivide_any _ _).mono ?_
        rintro e w1 ⟨rfl, rfl⟩
        rw [H2.out]
        go_wp2_with fail
        refine (isTime_any _ _).mono ?_
        rintro e w1 ⟨rfl, rfl⟩
        rw [H3.out]
        go_wp2
        clear hzr
        go_loopw [7] (fun x wr => ∃ (j : Nat) (f : Nat → Int), 1 ≤ j ∧ j ≤ 1001 ∧ x = .int .i64 (j : Int) ∧ Arr wr w.heap.size f ∧ (∀ i : Nat, i < j → f i = (tim D i : Int)) ∧ (∀ i : Nat, i < j → (tim D i : Int) < t) ∧ New w wr) (fun x _ => 1001 - (intOf x).toNat)
        case atStart => exact ⟨1, _, by omega, by omega, rfl, Arr.fresh _ _ EZ.out _, fun i hi => by obtain rfl : i = 0 := by omega
                                                                                                     rfl, fun i hi => by obtain rfl : i = 0 := by omega
                                                                                                                         simp only [Int.natCast_zero, tim_zero]; omega, (New.refl _).alloc _⟩
        case round =>
          obtain ⟨j, f, hj1, hj, rfl, ha, hf, hpre, hnw⟩ := hrel
          have NW := Lib.hid hnw; clear hnw
          have HP := Lib.hid hpre; clear hpre
          have HA := Lib.hid ha; clear ha
          have HF := Lib.hid hf; clear hf
          by_cases hlt : j ≤ 1000
          · have q1 := qUp_bd (a := (j : Int)) (by omega) d1
            have q2 := qUp_pos (a := (j : Int)) (by omega) d1
            have tb' := tim_le d1 1000 (j : Int) (by omega) (by omega)
            have ts := tim_step d1 (show 1 ≤ (j : Int) by omega)
            have QA := Lib.hid (fun w => quotientUp_any (j : Int) D w (by omega) (by omega) d1 (by omega))
            have YJ := Lib.hid (fun h => YES.out j hlt h HP.out)
            have HS := Lib.hid (fun (h : (tim D (j : Int) : Int) < t) (i : Nat) (hi : i < j + 1) => show (tim D (i : Int) : Int) < t from by
              by_cases e : i = j
              · subst e; exact h
              · exact HP.out i (by omega))
            obtain ⟨q, hq⟩ : ∃ q : Nat, (q : Int) = qUp (j : Int) D := ⟨(qUp (j : Int) D).toNat, by omega⟩
            rw [← hq] at q1 q2 ts QA
            clear hq
            obtain ⟨p, hp⟩ : ∃ p : Nat, j = p + q := ⟨j - q, by omega⟩
            have e0 : (j : Int) - (q : Int) = (p : Int) := by omega
            rw [e0] at ts
            have pj : p < 1001 := by omega
            have ef := HF.out p (by omega)
            clear hp
            obtain ⟨m, em⟩ : ∃ m, m = tim D (p : Int) := ⟨_, rfl⟩
            rw [← em] at ts ef
            clear em
            have TS := Lib.hid ts
            rw [ts] at YJ HS tb'
            clear ts
            have cp := HA.out.cell p pj
            rw [ef] at cp
            have cj := HA.out.cell j (by omega)
            have fj := HA.out.warm j
            have fp := HA.out.warm p
            clear ef
            have g1 : IntKind.i64.wrap ((j : Int) - (q : Int)) = (p : Int) := by rw [e0]; exact i64_in _ (by omega)
            have AN := Lib.hid (HA.out.set j (by omega) ((m : Int) + 1))
            have NN := Lib.hid (NW.out.setCell (p := ⟨w.heap.size, j, none⟩) (Nat.le_refl _) (.int .i64 ((m : Int) + 1)))
            by_cases hc : t ≤ ((m + 1 : Nat) : Int)
            · have Y := Lib.hid (YJ.out hc)
              have hc' : t ≤ (m : Int) + 1 := by omega
              go_wp2_with fail
              refine (QA.out _).mono ?_
              rintro e w1 ⟨rfl, rfl⟩
              go_wp2
              go_ret2
              exact ⟨by rw [Y.out.1, Y.out.2]; rfl, NN.out⟩
            · have hc' : ¬ t ≤ (m : Int) + 1 := by omega
              go_wp2_with fail
              refine (QA.out _).mono ?_
              rintro e w1 ⟨rfl, rfl⟩
              go_wp2
              go_roundw
              case rel =>
                refine ⟨j + 1, _, by omega, by omega, by go_num, AN.out, fun i hi => ?_, HS.out (by omega), NN.out⟩
                by_cases e : i = j
                · subst e; simp only [if_true]; rw [TS.out]; push_cast; rfl
                · simp only [e, if_false]; exact HF.out i (by omega)
              case measure => simp [intOf]; omega
          · have Y := Lib.hid (NONE.out (fun i hi => HP.out i (by omega)))
            go_wp2
            go_ret2
            exact ⟨by rw [Y.out.1, Y.out.2]; rfl, NW.out⟩
    · have hf := bool_nt h3
      have Y := Lib.hid (ll_bad (D := D) (t := t) (by rw [hf]; simp))
      have H2 := Lib.hid h2; have H3 := Lib.hid hf; clear h2 h3 hf
      go_enter Try.func17, Try.ntmps17
      go_wp2_with fail
      refine (isDivide_any _ _).mono ?_
      rintro e w1 ⟨rfl, rfl⟩
      rw [H2.out]
      go_wp2_with fail
      refine (isTime_any _ _).mono ?_
      rintro e w1 ⟨rfl, rfl⟩
      rw [H3.out]
      go_wp2
      go_ret2
      exact ⟨by rw [Y.out.1, Y.out.2]; rfl, New.refl _⟩
  · have hf := bool_nt h2
    have Y := Lib.hid (ll_bad (D := D) (t := t) (by rw [hf]; simp))
    have H2 := Lib.hid hf; clear h2 hf
    go_enter Try.func17, Try.ntmps17
    go_wp2_with fail
    refine (isDivide_any _ _).mono ?_
    rintro e w1 ⟨rfl, rfl⟩
    rw [H2.out]
    go_wp2
    go_ret2
    exact ⟨by rw [Y.out.1, Y.out.2]; rfl, New.refl _⟩
end Go.Proofs.Ytjkfedhpgionjaa
