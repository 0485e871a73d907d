/- Thinning by steps: the model's and the program's. -/
import Derived.Test.YtefpnlimkelehaaSal
import Derived.Test.YtefpnlimkelehaaPr
namespace Go.Proofs.Ytefpnlimkelehaa
open Go.RowKit Go.IntWalk

theorem red_red {n d s : Int} (hd : 0 < d) (hs : 0 < s) : red (red n d).1 ((red n d).2 * s) = red n (d * s) := by
  have hp := red_pos (n := n) hd
  refine red_eq (Int.mul_pos hp hs) (Int.mul_pos hd hs) ?_
  have := red_cross n d
  grind
/-- The share behind one step. -/
def thinOne (s k : Int) (p : Int × Int) : Int × Int := red (p.1 * (s - k)) (p.2 * s)
/-- The share behind so many steps, if all on the way are ratios. -/
def thinR (s k : Int) : Nat → Option (Int × Int)
  | 0 => some (1, 1)
  | t + 1 => (thinR s k t).bind fun p => if sgR (thinOne s k p).1 (thinOne s k p).2 = true then some (thinOne s k p) else none
theorem thinR_good {s k : Int} : ∀ {t : Nat} {p : Int × Int}, thinR s k t = some p → sgR p.1 p.2 = true
  | 0, p, h => by
    have e : (1, 1) = p := by simpa [thinR] using h
    subst e; decide
  | t + 1, p, h => by
    unfold thinR at h
    rw [Option.bind_eq_some_iff] at h
    obtain ⟨q, _, h⟩ := h
    split at h
    · rename_i hg
      cases h; exact hg
    · cases h
theorem thinR_yes {s k : Int} {t : Nat} {p : Int × Int} (h : thinR s k t = some p) (hg : sgR (thinOne s k p).1 (thinOne s k p).2 = true) : thinR s k (t + 1) = some (thinOne s k p) := by
  unfold thinR
  rw [h]
  simp [hg]
theorem thinR_no {s k : Int} {t : Nat} {p : Int × Int} (h : thinR s k t = some p) (hg : sgR (thinOne s k p).1 (thinOne s k p).2 = false) : thinR s k (t + 1) = none := by
  unfold thinR
  rw [h]
  simp [hg]
theorem thinR_none {s k : Int} {t : Nat} (h : thinR s k t = none) : ∀ n, thinR s k (t + n) = none
  | 0 => h
  | n + 1 => by
    rw [← Nat.add_assoc]
    unfold thinR
    rw [thinR_none h n]; rfl
def thinsB (s k : Int) : Bool := inB 1 60 s && inB 0 s k
theorem thinsB_iff {s k : Int} : thinsB s k = true ↔ (1 ≤ s ∧ s ≤ 60) ∧ 0 ≤ k ∧ k ≤ s := by
  unfold thinsB
  rw [Bool.and_eq_true, inB_iff, inB_iff]
def thB (s k t : Int) : Bool := thinsB s k && inB 0 50 t && (thinR s k t.toNat).isSome
def thM (s k t : Int) : Int × Int := if thB s k t = true then (thinR s k t.toNat).getD (0, 0) else (0, 0)
theorem thM_no {s k t : Int} (h : thB s k t = false) : thM s k t = (0, 0) := by unfold thM; rw [h]; rfl
theorem thB_of {s k t : Int} (h1 : thinsB s k = true) (h2 : inB 0 50 t = true) {o : Option (Int × Int)} (h : thinR s k t.toNat = o) : thB s k t = o.isSome := by unfold thB; rw [h1, h2, h]; rfl
theorem thM_of {s k t : Int} (h1 : thinsB s k = true) (h2 : inB 0 50 t = true) {o : Option (Int × Int)} (h : thinR s k t.toNat = o) : thM s k t = o.getD (0, 0) := by
  unfold thM
  rw [thB_of h1 h2 h, h]
  cases o <;> rfl
theorem thin_bds {a b s k : Int} (h : sgR a b = true) (h2 : (1 ≤ s ∧ s ≤ 60) ∧ 0 ≤ k ∧ k ≤ s) :
    (1 ≤ b * s ∧ b * s ≤ 60000000000) ∧ -60000000000 ≤ a * (s - k) ∧ a * (s - k) ≤ 60000000000 := by
  obtain ⟨⟨b1, b2⟩, ⟨a1, a2⟩, _⟩ := sgR_iff.1 h
  have k1 := Int.mul_le_mul_of_nonneg_right b2 (show 0 ≤ s by omega)
  have k2 := Int.mul_le_mul_of_nonneg_right b1 (show 0 ≤ s by omega)
  have k3 := Int.mul_le_mul_of_nonneg_right a2 (show 0 ≤ s - k by omega)
  have k4 := Int.mul_le_mul_of_nonneg_right a1 (show 0 ≤ s - k by omega)
  omega

theorem isThinning_any (w : World) (s k : Int) :
    Calls Try.prog 17 #[.int .i64 s, .int .i64 k] w fun e w' => e = .returned (.bool (thinsB s k)) ∧ New w w' := by
  by_cases h1 : 1 ≤ s
  · by_cases h2 : s ≤ 60
    · by_cases h3 : 0 ≤ k
      · by_cases h4 : k ≤ s
        · have hb := Lib.hid (thinsB_iff.2 ⟨⟨h1, h2⟩, h3, h4⟩)
          go_enter Try.func17, Try.ntmps17
          go_wp2
          go_ret
          exact ⟨ret_bool (by rw [hb.out]), (by repeat (first | with_reducible exact New.refl _ | with_reducible assumption | refine New.drewN ?_ _ | refine New.drew ?_ | refine New.alloc ?_ _ | refine New.setCell ?_ (by first | omega | (simp; omega) | (simp; done)) _ | (refine New.trans ?_ (by assumption))))⟩
        · have hb := Lib.hid (bool_no (show ¬ thinsB s k = true from fun h => by have := thinsB_iff.1 h; omega))
          have hf : decide (k ≤ s) = false := by simpa using h4
          go_enter Try.func17, Try.ntmps17
          go_wp2
          go_ret
          exact ⟨ret_bool (by rw [hb.out]), (by repeat (first | with_reducible exact New.refl _ | with_reducible assumption | refine New.drewN ?_ _ | refine New.drew ?_ | refine New.alloc ?_ _ | refine New.setCell ?_ (by first | omega | (simp; omega) | (simp; done)) _ | (refine New.trans ?_ (by assumption))))⟩
      · have hb := Lib.hid (bool_no (show ¬ thinsB s k = true from fun h => by have := thinsB_iff.1 h; omega))
        have hf : decide (0 ≤ k) = false := by simpa using h3
        go_enter Try.func17, Try.ntmps17
        go_wp2
        go_ret
        exact ⟨ret_bool (by rw [hb.out]), (by repeat (first | with_reducible exact New.refl _ | with_reducible assumption | refine New.drewN ?_ _ | refine New.drew ?_ | refine New.alloc ?_ _ | refine New.setCell ?_ (by first | omega | (simp; omega) | (simp; done)) _ | (refine New.trans ?_ (by assumption))))⟩
    · have hb := Lib.hid (bool_no (show ¬ thinsB s k = true from fun h => by have := thinsB_iff.1 h; omega))
      have hf : decide (s ≤ 60) = false := by simpa using h2
      go_enter Try.func17, Try.ntmps17
      go_wp2
      go_ret
      exact ⟨ret_bool (by rw [hb.out]), (by repeat (first | with_reducible exact New.refl _ | with_reducible assumption | refine New.drewN ?_ _ | refine New.drew ?_ | refine New.alloc ?_ _ | refine New.setCell ?_ (by first | omega | (simp; omega) | (simp; done)) _ | (refine New.trans ?_ (by assumption))))⟩
  · have hb := Lib.hid (bool_no (show ¬ thinsB s k = true from fun h => by have := thinsB_iff.1 h; omega))
    have hf : decide (1 ≤ s) = false := by simpa using h1
    go_enter Try.func17, Try.ntmps17
    go_wp2
    go_ret
    exact ⟨ret_bool (by rw [hb.out]), (by repeat (first | with_reducible exact New.refl _ | with_reducible assumption | refine New.drewN ?_ _ | refine New.drew ?_ | refine New.alloc ?_ _ | refine New.setCell ?_ (by first | omega | (simp; omega) | (simp; done)) _ | (refine New.trans ?_ (by assumption))))⟩

theorem saThins_any (w : World) (s k : Int) :
    Calls Try.prog 20 #[.int .i64 s, .int .i64 k] w fun e w' => e = .returned (.bool (thinsB s k)) ∧ w = w' := by
  by_cases h1 : inB 1 60 s = true
  · have HB := Lib.hid (show thinsB s k = inB 0 s k by unfold thinsB; rw [h1]; rfl)
    go_enter Try.func20, Try.ntmps20
    go_wp2_with fail
    refine (l1In_any _ _ _ _).mono ?_
    rintro e w1 ⟨rfl, rfl⟩
    go_wp2_with fail
    refine (l1In_any _ _ _ _).mono ?_
    rintro e w1 ⟨rfl, rfl⟩
    go_wp2
    go_ret
    exact ⟨ret_bool (by rw [HB.out]), rfl⟩
  · have h1f := bool_no h1
    have HB := Lib.hid (show thinsB s k = false by unfold thinsB; rw [h1f]; rfl)
    go_enter Try.func20, Try.ntmps20
    go_wp2_with fail
    refine (l1In_any _ _ _ _).mono ?_
    rintro e w1 ⟨rfl, rfl⟩
    go_wp2
    go_ret
    exact ⟨ret_bool (by rw [HB.out]), rfl⟩

set_option maxRecDepth 100000 in
theorem thinned_any (w : World) (a b s k : Int) (hg : sgR a b = true) (ht : (1 ≤ s ∧ s ≤ 60) ∧ 0 ≤ k ∧ k ≤ s) :
    Calls Try.prog 19 #[ratV (a, b), .int .i64 s, .int .i64 k] w fun e w' => e = .returned (.tuple #[ratV (okR (thinOne s k (a, b))), .bool (sgR (thinOne s k (a, b)).1 (thinOne s k (a, b)).2)]) ∧ New w w' := by
  obtain ⟨⟨d1, d2⟩, d3, d4⟩ := thin_bds hg ht
  obtain ⟨⟨b1, b2⟩, _, _⟩ := sgR_iff.1 hg
  obtain ⟨⟨t1, t2⟩, t3, t4⟩ := ht
  have rl := red_le (n := a * (s - k)) (d := b) (by omega)
  have rp := red_pos (n := a * (s - k)) (d := b) (by omega)
  obtain ⟨rl1, rl2, rl3⟩ := rl
  have hr := red_red (n := a * (s - k)) (d := b) (s := s) (by omega) (by omega)
  have hps := Int.mul_pos rp (show 0 < s by omega)
  have hpl := Int.mul_le_mul_of_nonneg_right rl1 (show 0 ≤ s by omega)
  have HX := Lib.hid (show red (a * (s - k)) b = ((red (a * (s - k)) b).1, (red (a * (s - k)) b).2) from rfl)
  generalize (red (a * (s - k)) b).1 = x at *
  generalize (red (a * (s - k)) b).2 = y at *
  have HR := Lib.hid (show red x (y * s) = thinOne s k (a, b) from hr); clear hr
  have xb : -4000000000000000000 ≤ x ∧ x ≤ 4000000000000000000 := by
    by_cases h0 : 0 ≤ a * (s - k)
    · have := rl2 h0; omega
    · have := rl3 (by omega); omega
  clear rl2 rl3
  obtain ⟨x1, x2⟩ := xb
  go_enter Try.func19, Try.ntmps19
  go_wp2_with fail
  refine (times_any _ a b (s - k) (by omega) (by omega) (by omega) (by omega)).mono ?_
  rintro e w1 ⟨rfl, n1⟩
  rw [HX.out]
  obtain ⟨c0, c1, f0, f1⟩ := pair_kept (p := ⟨w.heap.size + 1, 0, none⟩) (q := ⟨w.heap.size + 1, 1, none⟩) (x := .int .i64 0) (y := .int .i64 0) n1 (by simp [go_sem])
  have N1 := Lib.hid (show New w w1 from New.trans (by repeat (first | with_reducible exact New.refl _ | with_reducible assumption | refine New.drewN ?_ _ | refine New.drew ?_ | refine New.alloc ?_ _ | refine New.setCell ?_ (by first | omega | (simp; omega) | (simp; done)) _ | (refine New.trans ?_ (by assumption)))) n1); clear n1
  go_wp2_with fail
  refine (sharedOut_any _ x y s (by omega) (by omega) (by omega) (by omega)).mono ?_
  rintro e w2 ⟨rfl, n2⟩
  rw [HR.out]
  obtain ⟨c0, c1, f0, f1⟩ := pair_kept n2 ⟨c0, c1, f0, f1⟩
  have N2 := Lib.hid (N1.out.trans n2); clear n2 N1
  obtain ⟨P, hP⟩ : ∃ P, P = okR (thinOne s k (a, b)) := ⟨_, rfl⟩
  obtain ⟨g, hq⟩ : ∃ g, g = sgR (thinOne s k (a, b)).1 (thinOne s k (a, b)).2 := ⟨_, rfl⟩
  rw [← hP, ← hq]
  have HP := Lib.hid hP; have HQ := Lib.hid hq; clear hP hq
  go_wp2
  refine bodyPost_ret (v := .tuple #[ratV P, .bool g]) (by simp [results, Try.results19, go_sem, c0, c1]) rfl ⟨by rw [HP.out, HQ.out], ?_⟩
  have := N2.out
  (repeat (first | with_reducible exact New.refl _ | with_reducible assumption | refine New.drewN ?_ _ | refine New.drew ?_ | refine New.alloc ?_ _ | refine New.setCell ?_ (by first | omega | (simp; omega) | (simp; done)) _ | (refine New.trans ?_ (by assumption))))

set_option maxRecDepth 100000 in
set_option maxHeartbeats 2000000 in
theorem saThin_any (w : World) (s k : Int) (T : Nat) (ht : (1 ≤ s ∧ s ≤ 60) ∧ 0 ≤ k ∧ k ≤ s) (_hT : T ≤ 50) :
    Calls Try.prog 22 #[.int .i64 s, .int .i64 k, .int .i64 (T : Int)] w fun e w' => e = .returned (.tuple #[ratV ((thinR s k T).getD (0, 0)), .bool (thinR s k T).isSome]) ∧ New w w' := by
  have HT := Lib.hid ht
  obtain ⟨⟨t1, t2⟩, t3, t4⟩ := ht
  go_enter Try.func22, Try.ntmps22
  go_wp2
  go_loopw [2] (fun t wr => ∃ (j : Nat) (p : Int × Int), j ≤ T ∧ t = .int .i64 ((T : Int) - j) ∧ thinR s k j = some p ∧ Pr wr (w.heap.size + 1) (.int .i64 p.1) (.int .i64 p.2) ∧ Pr wr w.heap.size (.int .i64 0) (.int .i64 0) ∧ New w wr) (fun t _ => (intOf t).toNat)
  case atStart => exact ⟨0, (1, 1), Nat.zero_le _, by simp, rfl, ⟨by simp [go_sem], by simp [go_sem], by simp [go_sem], by simp [go_sem]⟩, ⟨by simp [go_sem], by simp [go_sem], by simp [go_sem], by simp [go_sem]⟩, (by repeat (first | with_reducible exact New.refl _ | with_reducible assumption | refine New.drewN ?_ _ | refine New.drew ?_ | refine New.alloc ?_ _ | refine New.setCell ?_ (by first | omega | (simp; omega) | (simp; done)) _ | (refine New.trans ?_ (by assumption))))⟩
  case round =>
    obtain ⟨j, ⟨a, b⟩, hj, rfl, hp, hc, hr, hn⟩ := hrel
    simp only at hc
    have HN := Lib.hid hn; clear hn
    have HC := Lib.hid hc
    have HR := Lib.hid hr
    obtain ⟨c0, c1, f0, f1⟩ := hc
    obtain ⟨r0, r1, y0, y1⟩ := hr
    have hg := thinR_good hp
    have HP := Lib.hid hp; clear hp
    have HG := Lib.hid hg; clear hg
    obtain ⟨⟨d1, d2⟩, d3, d4⟩ := thin_bds HG.out HT.out
    by_cases hlt : (T : Int) - j > 0
    · obtain ⟨P, hP⟩ : ∃ P, P = thinOne s k (a, b) := ⟨_, rfl⟩
      obtain ⟨x, y⟩ := P
      have HX := Lib.hid (show red (a * (s - k)) (b * s) = (x, y) from hP.symm)
      by_cases hg2 : sgR x y = true
      · have HY := Lib.hid (thinR_yes HP.out (by rw [← hP]; exact hg2))
        rw [← hP] at HY
        have HG2 := Lib.hid hg2; clear hP hg2
        go_wp2_with fail
        refine (saTimes_any _ a b (s - k) s (by omega) (by omega) (by omega) (by omega)).mono ?_
        rintro e w1 ⟨rfl, n1⟩
        rw [HX.out, HG2.out]
        have C1 := Lib.hid (HC.out.new n1)
        have R1 := Lib.hid (HR.out.new n1)
        have zr := C1.out.lt
        have N1 := Lib.hid (HN.out.trans n1); clear n1 HN c0 c1 f0 f1 r0 r1 y0 y1
        obtain ⟨c0, c1, f0, f1⟩ := C1.out
        go_wp2
        go_roundw
        case rel =>
          refine ⟨j + 1, (x, y), by omega, by go_num, HY.out, (C1.out.put _ _).alloc _, (R1.out.apart (by omega) _ _).alloc _, ?_⟩
          have := N1.out
          (repeat (first | with_reducible exact New.refl _ | with_reducible assumption | refine New.drewN ?_ _ | refine New.drew ?_ | refine New.alloc ?_ _ | refine New.setCell ?_ (by first | omega | (simp; omega) | (simp; done)) _ | (refine New.trans ?_ (by assumption))))
        case measure => simp [intOf]; omega
      · have hg2 := bool_no hg2
        have HY := Lib.hid (thinR_no HP.out (by rw [← hP]; exact hg2))
        have HG2 := Lib.hid hg2; clear hP hg2
        have HZ := Lib.hid (show thinR s k T = none by have := thinR_none HY.out (T - (j + 1)); rw [show j + 1 + (T - (j + 1)) = T by omega] at this; exact this)
        go_wp2_with fail
        refine (saTimes_any _ a b (s - k) s (by omega) (by omega) (by omega) (by omega)).mono ?_
        rintro e w1 ⟨rfl, n1⟩
        rw [HX.out, HG2.out]
        have R1 := Lib.hid (HR.out.new n1)
        have zr := R1.out.lt
        have N1 := Lib.hid (HN.out.trans n1); clear n1 HN c0 c1 f0 f1 r0 r1 y0 y1
        obtain ⟨r0, r1, y0, y1⟩ := R1.out
        go_wp2
        have k9 := (R1.out.put (.int .i64 0) (.int .i64 0)).alloc (.cells #[.int .i64 x, .int .i64 y] 27)
        refine bodyPost_ret (v := .tuple #[ratV (0, 0), .bool false]) (by simp [results, Try.results22, go_sem, k9.1, k9.2.1]) rfl ⟨by rw [HZ.out]; rfl, ?_⟩
        have := N1.out
        (repeat (first | with_reducible exact New.refl _ | with_reducible assumption | refine New.drewN ?_ _ | refine New.drew ?_ | refine New.alloc ?_ _ | refine New.setCell ?_ (by first | omega | (simp; omega) | (simp; done)) _ | (refine New.trans ?_ (by assumption))))
    · obtain rfl : j = T := by omega
      go_wp2
      have k9 := HR.out.put (.int .i64 a) (.int .i64 b)
      refine bodyPost_ret (v := .tuple #[ratV (a, b), .bool true]) (by simp [results, Try.results22, go_sem, k9.1, k9.2.1]) rfl ⟨by rw [HP.out]; rfl, ?_⟩
      have := HN.out
      (repeat (first | with_reducible exact New.refl _ | with_reducible assumption | refine New.drewN ?_ _ | refine New.drew ?_ | refine New.alloc ?_ _ | refine New.setCell ?_ (by first | omega | (simp; omega) | (simp; done)) _ | (refine New.trans ?_ (by assumption))))
end Go.Proofs.Ytefpnlimkelehaa
