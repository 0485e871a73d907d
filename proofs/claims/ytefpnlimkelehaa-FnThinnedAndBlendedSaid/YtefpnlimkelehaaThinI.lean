/- ThinShare and TimesToThin: the model's and the program's. -/
import Derived.Test.YtefpnlimkelehaaThin
namespace Go.Proofs.Ytefpnlimkelehaa
open Go.RowKit Go.IntWalk

set_option maxRecDepth 100000 in
set_option maxHeartbeats 1000000 in
theorem sThinShare_any (w : World) (s k t : Int) :
    Calls Try.prog 7 #[.int .i64 s, .int .i64 k, .int .i64 t] w fun e w' => e = .returned (.tuple #[ratV (thM s k t), .bool (thB s k t)]) ∧ New w w' := by
  by_cases h1 : thinsB s k = true
  · by_cases h2 : inB 0 50 t = true
    · obtain ⟨T, rfl⟩ : ∃ m : Nat, t = (m : Int) := ⟨t.toNat, by have := inB_iff.1 h2; omega⟩
      have hT : T ≤ 50 := by have := inB_iff.1 h2; omega
      have hi := thinsB_iff.1 h1
      obtain ⟨o, ho⟩ : ∃ o, thinR s k T = o := ⟨_, rfl⟩
      have HB := Lib.hid (thB_of h1 h2 (o := o) (by simpa using ho))
      have HM := Lib.hid (thM_of h1 h2 (o := o) (by simpa using ho))
      have HI := Lib.hid hi; clear hi
      have H1 := Lib.hid h1; clear h1
      have H2 := Lib.hid h2; clear h2
      have HO := Lib.hid ho; clear ho
      go_enter Try.func7, Try.ntmps7
      go_wp2_with fail
      refine (saThins_any _ _ _).mono ?_
      rintro e w1 ⟨rfl, rfl⟩
      rw [H1.out]
      go_wp2_with fail
      refine (l1In_any _ _ _ _).mono ?_
      rintro e w1 ⟨rfl, rfl⟩
      rw [H2.out]
      go_wp2_with fail
      refine (saThin_any _ s k T HI.out hT).mono ?_
      rintro e w1 ⟨rfl, n1⟩
      rw [HO.out]
      have C1 := Lib.hid ((Pr.fresh w (.int .i64 0) (.int .i64 0) 27).new n1)
      have N1 := Lib.hid (show New w w1 from New.trans (by repeat (first | with_reducible exact New.refl _ | with_reducible assumption | refine New.drewN ?_ _ | refine New.drew ?_ | refine New.alloc ?_ _ | refine New.setCell ?_ (by first | omega | (simp; omega) | (simp; done)) _ | (refine New.trans ?_ (by assumption)))) n1); clear n1
      obtain ⟨p, hp⟩ : ∃ p, p = o.getD (0, 0) := ⟨_, rfl⟩
      obtain ⟨g, hg⟩ : ∃ g, g = o.isSome := ⟨_, rfl⟩
      rw [← hp, ← hg]
      have HP := Lib.hid hp; have HG := Lib.hid hg; clear hp hg
      obtain ⟨c0, c1, f0, f1⟩ := C1.out
      go_wp2
      have k9 := C1.out.put (.int .i64 p.1) (.int .i64 p.2)
      refine bodyPost_ret (v := .tuple #[ratV p, .bool g]) (by simp [results, Try.results7, go_sem, k9.1, k9.2.1]) rfl ⟨by rw [HB.out, HM.out, HP.out, HG.out], ?_⟩
      have := N1.out
      (repeat (first | with_reducible exact New.refl _ | with_reducible assumption | refine New.drewN ?_ _ | refine New.drew ?_ | refine New.alloc ?_ _ | refine New.setCell ?_ (by first | omega | (simp; omega) | (simp; done)) _ | (refine New.trans ?_ (by assumption))))
    · have h2f := bool_no h2
      have HB := Lib.hid (show thB s k t = false by unfold thB; rw [h1, h2f]; rfl)
      have HM := Lib.hid (thM_no HB.out)
      have H1 := Lib.hid h1; clear h1
      have H2 := Lib.hid h2f; clear h2 h2f
      go_enter Try.func7, Try.ntmps7
      go_wp2_with fail
      refine (saThins_any _ _ _).mono ?_
      rintro e w1 ⟨rfl, rfl⟩
      rw [H1.out]
      go_wp2_with fail
      refine (l1In_any _ _ _ _).mono ?_
      rintro e w1 ⟨rfl, rfl⟩
      rw [H2.out]
      go_wp2
      refine bodyPost_ret (v := .tuple #[ratV (0, 0), .bool false]) (by simp [results, Try.results7, go_sem]) rfl ⟨by rw [HB.out, HM.out], ?_⟩
      (repeat (first | with_reducible exact New.refl _ | with_reducible assumption | refine New.drewN ?_ _ | refine New.drew ?_ | refine New.alloc ?_ _ | refine New.setCell ?_ (by first | omega | (simp; omega) | (simp; done)) _ | (refine New.trans ?_ (by assumption))))
  · have h1f := bool_no h1
    have HB := Lib.hid (show thB s k t = false by unfold thB; rw [h1f]; rfl)
    have HM := Lib.hid (thM_no HB.out)
    have H1 := Lib.hid h1f; clear h1 h1f
    go_enter Try.func7, Try.ntmps7
    go_wp2_with fail
    refine (saThins_any _ _ _).mono ?_
    rintro e w1 ⟨rfl, rfl⟩
    rw [H1.out]
    go_wp2
    refine bodyPost_ret (v := .tuple #[ratV (0, 0), .bool false]) (by simp [results, Try.results7, go_sem]) rfl ⟨by rw [HB.out, HM.out], ?_⟩
    (repeat (first | with_reducible exact New.refl _ | with_reducible assumption | refine New.drewN ?_ _ | refine New.drew ?_ | refine New.alloc ?_ _ | refine New.setCell ?_ (by first | omega | (simp; omega) | (simp; done)) _ | (refine New.trans ?_ (by assumption))))

set_option maxRecDepth 100000 in
set_option maxHeartbeats 2000000 in
theorem iThinShare_any (w : World) (s k t : Int) :
    Calls Try.prog 6 #[.int .i64 s, .int .i64 k, .int .i64 t] w fun e w' => e = .returned (.tuple #[ratV (thM s k t), .bool (thB s k t)]) ∧ New w w' := by
  have NO : (thinsB s k = true ∧ 0 ≤ t ∧ t ≤ 50) ∨ (thinsB s k = false) ∨ (thinsB s k = true ∧ t < 0) ∨ (thinsB s k = true ∧ ¬ t < 0 ∧ t > 50) := by
    by_cases h : thinsB s k = true
    · by_cases h0 : t < 0
      · exact .inr (.inr (.inl ⟨h, h0⟩))
      · by_cases h5 : t > 50
        · exact .inr (.inr (.inr ⟨h, h0, h5⟩))
        · exact .inl ⟨h, by omega, by omega⟩
    · exact .inr (.inl (bool_no h))
  have ZB : thinsB s k = false ∨ t < 0 ∨ t > 50 → thB s k t = false := by
    intro h
    unfold thB
    rcases h with h | h | h
    · rw [h]; rfl
    · rw [inB_false.2 (by omega)]; simp
    · rw [inB_false.2 (by omega)]; simp
  rcases NO with ⟨h1, h2, h3⟩ | h1 | ⟨h1, h2⟩ | ⟨h1, h2, h3⟩
  · clear ZB
    obtain ⟨T, rfl⟩ : ∃ m : Nat, t = (m : Int) := ⟨t.toNat, by omega⟩
    have i1 := thinsB_iff.1 h1
    have HI := Lib.hid i1
    have WB := Lib.hid (fun o => thB_of h1 (inB_iff.2 ⟨h2, h3⟩) (o := o))
    have WM := Lib.hid (fun o => thM_of h1 (inB_iff.2 ⟨h2, h3⟩) (o := o))
    have H1 := Lib.hid h1; clear h1 i1
    go_enter Try.func6, Try.ntmps6
    go_wp2_with fail
    refine (isThinning_any _ _ _).mono ?_
    rintro e w1 ⟨rfl, n1⟩
    rw [H1.out]
    have R1 := Lib.hid ((Pr.fresh w (.int .i64 0) (.int .i64 0) 27).new n1)
    have N1 := Lib.hid (show New w w1 from New.trans (by repeat (first | with_reducible exact New.refl _ | with_reducible assumption | refine New.drewN ?_ _ | refine New.drew ?_ | refine New.alloc ?_ _ | refine New.setCell ?_ (by first | omega | (simp; omega) | (simp; done)) _ | (refine New.trans ?_ (by assumption)))) n1); clear n1
    go_wp2_with fail
    refine (wholeRatio_any _ _).mono ?_
    rintro e w2 ⟨rfl, n2⟩
    have R2 := Lib.hid (R1.out.new n2)
    have N2 := Lib.hid (N1.out.trans n2); clear n2 N1 R1
    obtain ⟨B, hB⟩ : ∃ B, B = w2.heap.size := ⟨_, rfl⟩
    have zB := R2.out.lt
    go_upto_region 4 with fail
    obtain ⟨v0, hv0⟩ : ∃ xx : World, xx = w2.alloc (.cells #[.int .i64 1, .int .i64 1] 27) := ⟨_, rfl⟩
    rw [← hv0]
    have C0 := Lib.hid (show Pr v0 B (.int .i64 1) (.int .i64 1) by rw [hv0, hB]; exact Pr.fresh _ _ _ _)
    have R0 := Lib.hid (show Pr v0 w.heap.size (.int .i64 0) (.int .i64 0) by rw [hv0]; exact R2.out.alloc _)
    have N0 := Lib.hid (show New w v0 by rw [hv0]; exact N2.out.alloc _)
    rw [← hB] at zB ⊢
    have zN := N2.out.size
    rw [← hB] at zN
    clear hv0 hB R2 N2
    go_wp2_with fail
    go_loopw [26] (fun i wr => ∃ (j : Nat) (p : Int × Int), j ≤ T ∧ i = .int .i64 (j : Int) ∧ thinR s k j = some p ∧ Pr wr B (.int .i64 p.1) (.int .i64 p.2) ∧ Pr wr w.heap.size (.int .i64 0) (.int .i64 0) ∧ New w wr) (fun i _ => T - (intOf i).toNat)
    case atStart => exact ⟨0, (1, 1), Nat.zero_le _, rfl, rfl, C0.out, R0.out, N0.out⟩
    case round =>
      obtain ⟨j, ⟨a, b⟩, hj, rfl, hp, hc, hr, hn⟩ := hrel
      simp only at hc
      have HN := Lib.hid hn; clear hn
      have HC := Lib.hid hc
      have HR := Lib.hid hr
      obtain ⟨c0, c1, f0, f1⟩ := hc
      obtain ⟨r0, r1, y0, y1⟩ := hr
      have hg := thinR_good hp
      have HP := Lib.hid hp; clear hp
      have HG := Lib.hid hg; clear hg
      by_cases hlt : (j : Int) < T
      · obtain ⟨P, hP⟩ : ∃ P, P = thinOne s k (a, b) := ⟨_, rfl⟩
        obtain ⟨x, y⟩ := P
        have HX := Lib.hid (show thinOne s k (a, b) = (x, y) from hP.symm)
        by_cases hg2 : sgR x y = true
        · have HY := Lib.hid (thinR_yes HP.out (by rw [← hP]; exact hg2))
          rw [← hP] at HY
          have HG2 := Lib.hid hg2
          have HK := Lib.hid (okR_yes (p := (x, y)) hg2); clear hP hg2
          go_wp2_with fail
          refine (thinned_any _ a b s k HG.out HI.out).mono ?_
          rintro e w3 ⟨rfl, n3⟩
          rw [HX.out, HG2.out, HK.out]
          have C1 := Lib.hid (HC.out.new n3)
          have R1 := Lib.hid (HR.out.new n3)
          have zr := C1.out.lt
          have N1 := Lib.hid (HN.out.trans n3); clear n3 HN c0 c1 f0 f1 r0 r1 y0 y1
          obtain ⟨c0, c1, f0, f1⟩ := C1.out
          go_wp2
          go_roundw
          case rel =>
            refine ⟨j + 1, (x, y), by omega, by go_num, HY.out, (C1.out.put _ _).alloc _, (R1.out.apart (by omega) _ _).alloc _, ?_⟩
            have := N1.out
            (repeat (first | with_reducible exact New.refl _ | with_reducible assumption | refine New.drewN ?_ _ | refine New.drew ?_ | refine New.alloc ?_ _ | refine New.setCell ?_ (by first | omega | (simp; omega) | (simp; done)) _ | (refine New.trans ?_ (by assumption))))
          case measure => simp [intOf]; omega
        · have hg2 := bool_no hg2
          have HY := Lib.hid (thinR_no HP.out (by rw [← hP]; exact hg2))
          have HG2 := Lib.hid hg2
          have HK := Lib.hid (okR_no (p := (x, y)) hg2); clear hP hg2
          have HZ := Lib.hid (show thinR s k T = none by have := thinR_none HY.out (T - (j + 1)); rw [show j + 1 + (T - (j + 1)) = T by omega] at this; exact this)
          go_wp2_with fail
          refine (thinned_any _ a b s k HG.out HI.out).mono ?_
          rintro e w3 ⟨rfl, n3⟩
          rw [HX.out, HG2.out, HK.out]
          have R1 := Lib.hid (HR.out.new n3)
          have zr := R1.out.lt
          have N1 := Lib.hid (HN.out.trans n3); clear n3 HN c0 c1 f0 f1 r0 r1 y0 y1
          obtain ⟨r0, r1, y0, y1⟩ := R1.out
          go_wp2
          have k9 := (R1.out.put (.int .i64 0) (.int .i64 0)).alloc (.cells #[.int .i64 0, .int .i64 0] 27)
          refine bodyPost_ret (v := .tuple #[ratV (0, 0), .bool false]) (by simp [results, Try.results6, go_sem, k9.1, k9.2.1]) rfl ⟨by rw [WB.out none (by simpa using HZ.out), WM.out none (by simpa using HZ.out)]; rfl, ?_⟩
          have := N1.out
          (repeat (first | with_reducible exact New.refl _ | with_reducible assumption | refine New.drewN ?_ _ | refine New.drew ?_ | refine New.alloc ?_ _ | refine New.setCell ?_ (by first | omega | (simp; omega) | (simp; done)) _ | (refine New.trans ?_ (by assumption))))
      · obtain rfl : j = T := by omega
        go_wp2
        have k9 := HR.out.put (.int .i64 a) (.int .i64 b)
        refine bodyPost_ret (v := .tuple #[ratV (a, b), .bool true]) (by simp [results, Try.results6, go_sem, k9.1, k9.2.1]) rfl ⟨by rw [WB.out _ (by simpa using HP.out), WM.out _ (by simpa using HP.out)]; rfl, ?_⟩
        have := HN.out
        (repeat (first | with_reducible exact New.refl _ | with_reducible assumption | refine New.drewN ?_ _ | refine New.drew ?_ | refine New.alloc ?_ _ | refine New.setCell ?_ (by first | omega | (simp; omega) | (simp; done)) _ | (refine New.trans ?_ (by assumption))))
  all_goals
    have WB := Lib.hid (ZB (by first | exact .inl h1 | exact .inr (.inl h2) | exact .inr (.inr h3)))
    have WM := Lib.hid (thM_no WB.out)
    have H1 := Lib.hid h1
    clear h1 ZB
    go_enter Try.func6, Try.ntmps6
    go_wp2_with fail
    refine (isThinning_any _ _ _).mono ?_
    rintro e w1 ⟨rfl, n1⟩
    rw [H1.out]
    have R1 := Lib.hid ((Pr.fresh w (.int .i64 0) (.int .i64 0) 27).new n1)
    have N1 := Lib.hid (show New w w1 from New.trans (by repeat (first | with_reducible exact New.refl _ | with_reducible assumption | refine New.drewN ?_ _ | refine New.drew ?_ | refine New.alloc ?_ _ | refine New.setCell ?_ (by first | omega | (simp; omega) | (simp; done)) _ | (refine New.trans ?_ (by assumption)))) n1); clear n1
    obtain ⟨r0, r1, y0, y1⟩ := R1.out
    go_wp2
    have k9 := R1.out.put (.int .i64 0) (.int .i64 0)
    refine bodyPost_ret (v := .tuple #[ratV (0, 0), .bool false]) (by simp [results, Try.results6, go_sem, k9.1, k9.2.1]) rfl ⟨by rw [WB.out, WM.out], ?_⟩
    have := N1.out
    (repeat (first | with_reducible exact New.refl _ | with_reducible assumption | refine New.drewN ?_ _ | refine New.drew ?_ | refine New.alloc ?_ _ | refine New.setCell ?_ (by first | omega | (simp; omega) | (simp; done)) _ | (refine New.trans ?_ (by assumption))))

/-- The least of the steps from t on, n of them, behind which the share is no greater than a / b. -/
def timeN (s k a b : Int) : Nat → Nat → Option Nat
  | 0, _ => none
  | n + 1, t => match thinR s k t with
    | none => none
    | some p => if p.1 * b ≤ a * p.2 then some t else timeN s k a b n (t + 1)
theorem timeN_none {s k a b : Int} {n t : Nat} (h : thinR s k t = none) : timeN s k a b n t = none := by
  cases n with
  | zero => rfl
  | succ n => unfold timeN; rw [h]
theorem timeN_hit {s k a b : Int} {n t : Nat} {p : Int × Int} (h : thinR s k t = some p) (hp : p.1 * b ≤ a * p.2) : timeN s k a b (n + 1) t = some t := by
  unfold timeN; rw [h]; simp [hp]
theorem timeN_on {s k a b : Int} {n t : Nat} {p : Int × Int} (h : thinR s k t = some p) (hp : ¬ p.1 * b ≤ a * p.2) : timeN s k a b (n + 1) t = timeN s k a b n (t + 1) := by
  conv => lhs; unfold timeN
  rw [h]; simp [hp]
def ttB (s k a b : Int) : Bool := thinsB s k && sgR a b && (timeN s k a b 51 0).isSome
def ttM (s k a b : Int) : Int := if ttB s k a b = true then ((timeN s k a b 51 0).getD 0 : Nat) else 0
theorem ttM_no {s k a b : Int} (h : ttB s k a b = false) : ttM s k a b = 0 := by unfold ttM; rw [h]; rfl
theorem ttB_of {s k a b : Int} (h1 : thinsB s k = true) (h2 : sgR a b = true) {o : Option Nat} (h : timeN s k a b 51 0 = o) : ttB s k a b = o.isSome := by unfold ttB; rw [h1, h2, h]; rfl
theorem ttM_of {s k a b : Int} (h1 : thinsB s k = true) (h2 : sgR a b = true) {o : Option Nat} (h : timeN s k a b 51 0 = o) : ttM s k a b = (o.getD 0 : Nat) := by
  unfold ttM
  rw [ttB_of h1 h2 h, h]
  cases o <;> rfl
theorem sg_mul {x y c d : Int} (h : sgR x y = true) (k : sgR c d = true) : -1000000000000000000 ≤ x * d ∧ x * d ≤ 1000000000000000000 := by
  obtain ⟨_, ⟨a1, a2⟩, _⟩ := sgR_iff.1 h
  obtain ⟨⟨b1, b2⟩, _, _⟩ := sgR_iff.1 k
  have k1 := Int.mul_le_mul_of_nonneg_right a2 (show 0 ≤ d by omega)
  have k2 := Int.mul_le_mul_of_nonneg_right a1 (show 0 ≤ d by omega)
  omega

set_option maxRecDepth 100000 in
set_option maxHeartbeats 2000000 in
theorem sTimesToThin_any (w : World) (s k a b : Int) :
    Calls Try.prog 10 #[.int .i64 s, .int .i64 k, ratV (a, b)] w fun e w' => e = .returned (.tuple #[.int .i64 (ttM s k a b), .bool (ttB s k a b)]) ∧ New w w' := by
  by_cases h1 : thinsB s k = true
  · by_cases h2 : sgR a b = true
    · have i1 := thinsB_iff.1 h1
      have HI := Lib.hid i1
      have WB := Lib.hid (fun o => ttB_of h1 h2 (o := o))
      have WM := Lib.hid (fun o => ttM_of h1 h2 (o := o))
      have H1 := Lib.hid h1
      have H2 := Lib.hid h2
      clear i1 h1 h2
      go_enter Try.func10, Try.ntmps10
      go_wp2_with fail
      refine (saThins_any _ _ _).mono ?_
      rintro e w1 ⟨rfl, rfl⟩
      rw [H1.out]
      go_wp2_with fail
      refine (saGood_any _ a b).mono ?_
      rintro e w2 ⟨rfl, n2⟩
      rw [H2.out]
      have A0 : w2.cell? ⟨w.heap.size, 0, none⟩ = some (.int .i64 a) := n2.cell (by simp)
      have A1 : w2.cell? ⟨w.heap.size, 1, none⟩ = some (.int .i64 b) := n2.cell (by simp)
      have N2 := Lib.hid (show New w w2 from New.trans (by repeat (first | with_reducible exact New.refl _ | with_reducible assumption | refine New.drewN ?_ _ | refine New.drew ?_ | refine New.alloc ?_ _ | refine New.setCell ?_ (by first | omega | (simp; omega) | (simp; done)) _ | (refine New.trans ?_ (by assumption)))) n2); clear n2
      go_wp2_with fail
      go_loopw [8] (fun i wr => ∃ (j : Nat), j ≤ 51 ∧ i = .int .i64 (j : Int) ∧ timeN s k a b 51 0 = timeN s k a b (51 - j) j ∧ New w2 wr) (fun i _ => 51 - (intOf i).toNat)
      case atStart => exact ⟨0, by omega, rfl, rfl, New.refl _⟩
      case round =>
        obtain ⟨j, hj, rfl, htm, hn⟩ := hrel
        have HT := Lib.hid htm; clear htm
        have a0 := hn.cell A0
        have a1 := hn.cell A1
        have HN := Lib.hid hn; clear hn
        by_cases hlt : (j : Int) ≤ 50
        · have hj5 : j ≤ 50 := by omega
          obtain ⟨o, ho⟩ : ∃ o, thinR s k j = o := ⟨_, rfl⟩
          have HO := Lib.hid ho; clear ho
          go_wp2_with fail
          refine (saThin_any _ s k j HI.out hj5).mono ?_
          rintro e w3 ⟨rfl, n3⟩
          rw [HO.out]
          replace a0 := n3.cell a0
          replace a1 := n3.cell a1
          have N3 := Lib.hid (HN.out.trans n3); clear n3 HN
          cases o with
          | none =>
            have HZ := Lib.hid (show timeN s k a b 51 0 = none by rw [HT.out]; exact timeN_none HO.out)
            simp only [Option.getD_none, Option.isSome_none]
            go_wp2
            go_ret2
            exact ⟨by rw [WB.out none HZ.out, WM.out none HZ.out]; rfl, by have := N2.out.trans N3.out; (repeat (first | with_reducible exact New.refl _ | with_reducible assumption | refine New.drewN ?_ _ | refine New.drew ?_ | refine New.alloc ?_ _ | refine New.setCell ?_ (by first | omega | (simp; omega) | (simp; done)) _ | (refine New.trans ?_ (by assumption))))⟩
          | some p =>
            obtain ⟨x, y⟩ := p
            have hg := thinR_good HO.out
            simp only at hg
            obtain ⟨m1, m2⟩ := sg_mul hg H2.out
            obtain ⟨m3, m4⟩ := sg_mul H2.out hg
            have zr := World.block_lt_of_cell? _ _ a0
            simp only at zr
            simp only [Option.getD_some, Option.isSome_some]
            by_cases hle : x * b ≤ a * y
            · have HZ := Lib.hid (show timeN s k a b 51 0 = some j by rw [HT.out, show 51 - j = (50 - j) + 1 by omega]; exact timeN_hit HO.out hle)
              go_wp2
              go_ret2
              exact ⟨by rw [WB.out _ HZ.out, WM.out _ HZ.out]; rfl, by have := N2.out.trans N3.out; (repeat (first | with_reducible exact New.refl _ | with_reducible assumption | refine New.drewN ?_ _ | refine New.drew ?_ | refine New.alloc ?_ _ | refine New.setCell ?_ (by first | omega | (simp; omega) | (simp; done)) _ | (refine New.trans ?_ (by assumption))))⟩
            · have HZ := Lib.hid (show timeN s k a b 51 0 = timeN s k a b (51 - (j + 1)) (j + 1) by rw [HT.out, show 51 - j = (51 - (j + 1)) + 1 by omega]; exact timeN_on HO.out hle)
              go_wp2
              go_roundw
              case rel => exact ⟨j + 1, by omega, by go_num, HZ.out, by have := N3.out; (repeat (first | with_reducible exact New.refl _ | with_reducible assumption | refine New.drewN ?_ _ | refine New.drew ?_ | refine New.alloc ?_ _ | refine New.setCell ?_ (by first | omega | (simp; omega) | (simp; done)) _ | (refine New.trans ?_ (by assumption))))⟩
              case measure => simp [intOf]; omega
        · have HZ := Lib.hid (show timeN s k a b 51 0 = none by rw [HT.out, show 51 - j = 0 by omega]; rfl)
          go_wp2
          go_ret2
          exact ⟨by rw [WB.out none HZ.out, WM.out none HZ.out]; rfl, by have := N2.out.trans HN.out; (repeat (first | with_reducible exact New.refl _ | with_reducible assumption | refine New.drewN ?_ _ | refine New.drew ?_ | refine New.alloc ?_ _ | refine New.setCell ?_ (by first | omega | (simp; omega) | (simp; done)) _ | (refine New.trans ?_ (by assumption))))⟩
    · have h2f := bool_no h2
      have WB := Lib.hid (show ttB s k a b = false by unfold ttB; rw [h1, h2f]; rfl)
      have WM := Lib.hid (ttM_no WB.out)
      have H1 := Lib.hid h1
      have H2 := Lib.hid h2f
      clear h1 h2 h2f
      go_enter Try.func10, Try.ntmps10
      go_wp2_with fail
      refine (saThins_any _ _ _).mono ?_
      rintro e w1 ⟨rfl, rfl⟩
      rw [H1.out]
      go_wp2_with fail
      refine (saGood_any _ a b).mono ?_
      rintro e w2 ⟨rfl, n2⟩
      rw [H2.out]
      have A0 : w2.cell? ⟨w.heap.size, 0, none⟩ = some (.int .i64 a) := n2.cell (by simp)
      have A1 : w2.cell? ⟨w.heap.size, 1, none⟩ = some (.int .i64 b) := n2.cell (by simp)
      have N2 := Lib.hid (show New w w2 from New.trans (by repeat (first | with_reducible exact New.refl _ | with_reducible assumption | refine New.drewN ?_ _ | refine New.drew ?_ | refine New.alloc ?_ _ | refine New.setCell ?_ (by first | omega | (simp; omega) | (simp; done)) _ | (refine New.trans ?_ (by assumption)))) n2); clear n2
      go_wp2
      go_ret2
      exact ⟨by rw [WB.out, WM.out]; rfl, by have := N2.out; (repeat (first | with_reducible exact New.refl _ | with_reducible assumption | refine New.drewN ?_ _ | refine New.drew ?_ | refine New.alloc ?_ _ | refine New.setCell ?_ (by first | omega | (simp; omega) | (simp; done)) _ | (refine New.trans ?_ (by assumption))))⟩
  · have h1f := bool_no h1
    have WB := Lib.hid (show ttB s k a b = false by unfold ttB; rw [h1f]; rfl)
    have WM := Lib.hid (ttM_no WB.out)
    have H1 := Lib.hid h1f
    clear h1 h1f
    go_enter Try.func10, Try.ntmps10
    go_wp2_with fail
    refine (saThins_any _ _ _).mono ?_
    rintro e w1 ⟨rfl, rfl⟩
    rw [H1.out]
    go_wp2
    go_ret2
    exact ⟨by rw [WB.out, WM.out]; rfl, by (repeat (first | with_reducible exact New.refl _ | with_reducible assumption | refine New.drewN ?_ _ | refine New.drew ?_ | refine New.alloc ?_ _ | refine New.setCell ?_ (by first | omega | (simp; omega) | (simp; done)) _ | (refine New.trans ?_ (by assumption))))⟩

set_option maxRecDepth 100000 in
set_option maxHeartbeats 2000000 in
theorem iTimesToThin_any (w : World) (s k a b : Int) :
    Calls Try.prog 9 #[.int .i64 s, .int .i64 k, ratV (a, b)] w fun e w' => e = .returned (.tuple #[.int .i64 (ttM s k a b), .bool (ttB s k a b)]) ∧ New w w' := by
  by_cases h1 : thinsB s k = true
  · by_cases h2 : sgR a b = true
    · have i1 := thinsB_iff.1 h1
      have HI := Lib.hid i1
      have WB := Lib.hid (fun o => ttB_of h1 h2 (o := o))
      have WM := Lib.hid (fun o => ttM_of h1 h2 (o := o))
      have H1 := Lib.hid h1
      have H2 := Lib.hid h2
      clear i1 h1 h2
      go_enter Try.func9, Try.ntmps9
      go_wp2_with fail
      refine (isThinning_any _ _ _).mono ?_
      rintro e w1 ⟨rfl, n1⟩
      rw [H1.out]
      have A0 : w1.cell? ⟨w.heap.size, 0, none⟩ = some (.int .i64 a) := n1.cell (by simp)
      have A1 : w1.cell? ⟨w.heap.size, 1, none⟩ = some (.int .i64 b) := n1.cell (by simp)
      have N1 := Lib.hid (show New w w1 from New.trans (by repeat (first | with_reducible exact New.refl _ | with_reducible assumption | refine New.drewN ?_ _ | refine New.drew ?_ | refine New.alloc ?_ _ | refine New.setCell ?_ (by first | omega | (simp; omega) | (simp; done)) _ | (refine New.trans ?_ (by assumption)))) n1); clear n1
      go_wp2_with fail
      refine (iIsRatio_any _ a b).mono ?_
      rintro e w2 ⟨rfl, n2⟩
      rw [H2.out]
      replace A0 := n2.cell A0
      replace A1 := n2.cell A1
      have N2 := Lib.hid (N1.out.trans n2); clear n2 N1
      go_wp2_with fail
      refine (wholeRatio_any _ _).mono ?_
      rintro e w3 ⟨rfl, n3⟩
      replace A0 := n3.cell A0
      replace A1 := n3.cell A1
      have N3 := Lib.hid (N2.out.trans n3); clear n3 N2
      obtain ⟨B, hB⟩ : ∃ B, B = w3.heap.size := ⟨_, rfl⟩
      have zB := World.block_lt_of_cell? _ _ A0
      simp only at zB
      go_upto_region 4 with fail
      obtain ⟨v0, hv0⟩ : ∃ xx : World, xx = w3.alloc (.cells #[.int .i64 1, .int .i64 1] 27) := ⟨_, rfl⟩
      rw [← hv0]
      have C0 := Lib.hid (show Pr v0 B (.int .i64 1) (.int .i64 1) by rw [hv0, hB]; exact Pr.fresh _ _ _ _)
      have A0 := Lib.hid (show v0.cell? ⟨w.heap.size, 0, none⟩ = some (.int .i64 a) by rw [hv0]; exact World.cell_kept A0)
      have A1 := Lib.hid (show v0.cell? ⟨w.heap.size, 1, none⟩ = some (.int .i64 b) by rw [hv0]; exact World.cell_kept A1)
      have N0 := Lib.hid (show New w v0 by rw [hv0]; exact N3.out.alloc _)
      rw [← hB] at zB ⊢
      clear hv0 hB N3
      go_wp2_with fail
      go_loopw [22] (fun i wr => ∃ (j : Nat) (p : Int × Int), j ≤ 51 ∧ i = .int .i64 (j : Int) ∧ thinR s k j = some p ∧ timeN s k a b 51 0 = timeN s k a b (51 - j) j ∧ Pr wr B (.int .i64 p.1) (.int .i64 p.2)
        ∧ wr.cell? ⟨w.heap.size, 0, none⟩ = some (.int .i64 a) ∧ wr.cell? ⟨w.heap.size, 1, none⟩ = some (.int .i64 b) ∧ New w wr) (fun i _ => 51 - (intOf i).toNat)
      case atStart => exact ⟨0, (1, 1), by omega, rfl, rfl, rfl, C0.out, A0.out, A1.out, N0.out⟩
      case round =>
        obtain ⟨j, ⟨x, y⟩, hj, rfl, hp, htm, hc, a0, a1, hn⟩ := hrel
        simp only at hc
        have HT := Lib.hid htm; clear htm
        have HN := Lib.hid hn; clear hn
        have HC := Lib.hid hc
        obtain ⟨c0, c1, f0, f1⟩ := hc
        have HO := Lib.hid hp
        have hg := thinR_good hp
        simp only at hg
        clear hp
        have HG := Lib.hid hg
        obtain ⟨m1, m2⟩ := sg_mul hg H2.out
        obtain ⟨m3, m4⟩ := sg_mul H2.out hg
        clear hg
        by_cases hlt : (j : Int) < 51
        · go_wp2_with fail
          refine (isLess_any _ a b x y (by omega) (by omega) (by omega) (by omega)).mono ?_
          rintro e w4 ⟨rfl, n4⟩
          replace a0 := n4.cell a0
          replace a1 := n4.cell a1
          have C4 := Lib.hid (HC.out.new n4)
          have N4 := Lib.hid (HN.out.trans n4); clear n4 HN HC c0 c1 f0 f1
          obtain ⟨c0, c1, f0, f1⟩ := C4.out
          by_cases hle : x * b ≤ a * y
          · have HZ := Lib.hid (show timeN s k a b 51 0 = some j by rw [HT.out, show 51 - j = (50 - j) + 1 by omega]; exact timeN_hit HO.out hle)
            rw [show decide (a * y < x * b) = false by simpa using hle]
            go_wp2
            go_ret2
            exact ⟨by rw [WB.out _ HZ.out, WM.out _ HZ.out]; rfl, by have := N4.out; (repeat (first | with_reducible exact New.refl _ | with_reducible assumption | refine New.drewN ?_ _ | refine New.drew ?_ | refine New.alloc ?_ _ | refine New.setCell ?_ (by first | omega | (simp; omega) | (simp; done)) _ | (refine New.trans ?_ (by assumption))))⟩
          · have HZ := Lib.hid (show timeN s k a b 51 0 = timeN s k a b (51 - (j + 1)) (j + 1) by rw [HT.out, show 51 - j = (51 - (j + 1)) + 1 by omega]; exact timeN_on HO.out hle)
            rw [show decide (a * y < x * b) = true by simpa using hle]
            clear hle m1 m2 m3 m4
            obtain ⟨P, hP⟩ : ∃ P, P = thinOne s k (x, y) := ⟨_, rfl⟩
            obtain ⟨x', y'⟩ := P
            have HX := Lib.hid (show thinOne s k (x, y) = (x', y') from hP.symm)
            by_cases hg2 : sgR x' y' = true
            · have HY := Lib.hid (thinR_yes HO.out (by rw [← hP]; exact hg2))
              rw [← hP] at HY
              have HG2 := Lib.hid hg2
              have HK := Lib.hid (okR_yes (p := (x', y')) hg2); clear hP hg2
              go_wp2_with fail
              refine (thinned_any _ x y s k HG.out HI.out).mono ?_
              rintro e w5 ⟨rfl, n5⟩
              rw [HX.out, HG2.out, HK.out]
              replace a0 := n5.cell a0
              replace a1 := n5.cell a1
              have C5 := Lib.hid (C4.out.new n5)
              have zr := C5.out.lt
              have N5 := Lib.hid (N4.out.trans n5); clear n5 c0 c1 f0 f1
              obtain ⟨c0, c1, f0, f1⟩ := C5.out
              go_wp2
              go_roundw
              case rel =>
                refine ⟨j + 1, (x', y'), by omega, by go_num, HY.out, HZ.out, (C5.out.put _ _).alloc _, World.cell_kept (World.cell_set (World.cell_set a0 (by simp; omega)) (by simp; omega)), World.cell_kept (World.cell_set (World.cell_set a1 (by simp; omega)) (by simp; omega)), ?_⟩
                have := N5.out
                (repeat (first | with_reducible exact New.refl _ | with_reducible assumption | refine New.drewN ?_ _ | refine New.drew ?_ | refine New.alloc ?_ _ | refine New.setCell ?_ (by first | omega | (simp; omega) | (simp; done)) _ | (refine New.trans ?_ (by assumption))))
              case measure => simp [intOf]; omega
            · have hg2 := bool_no hg2
              have HY := Lib.hid (thinR_no HO.out (by rw [← hP]; exact hg2))
              have HG2 := Lib.hid hg2
              have HK := Lib.hid (okR_no (p := (x', y')) hg2); clear hP hg2
              have HZ2 := Lib.hid (show timeN s k a b 51 0 = none by rw [HZ.out]; exact timeN_none HY.out)
              go_wp2_with fail
              refine (thinned_any _ x y s k HG.out HI.out).mono ?_
              rintro e w5 ⟨rfl, n5⟩
              rw [HX.out, HG2.out, HK.out]
              have N5 := Lib.hid (N4.out.trans n5); clear n5 c0 c1 f0 f1
              go_wp2
              go_ret2
              exact ⟨by rw [WB.out none HZ2.out, WM.out none HZ2.out]; rfl, by have := N5.out; (repeat (first | with_reducible exact New.refl _ | with_reducible assumption | refine New.drewN ?_ _ | refine New.drew ?_ | refine New.alloc ?_ _ | refine New.setCell ?_ (by first | omega | (simp; omega) | (simp; done)) _ | (refine New.trans ?_ (by assumption))))⟩
        · have HZ := Lib.hid (show timeN s k a b 51 0 = none by rw [HT.out, show 51 - j = 0 by omega]; rfl)
          go_wp2
          go_ret2
          exact ⟨by rw [WB.out none HZ.out, WM.out none HZ.out]; rfl, by have := HN.out; (repeat (first | with_reducible exact New.refl _ | with_reducible assumption | refine New.drewN ?_ _ | refine New.drew ?_ | refine New.alloc ?_ _ | refine New.setCell ?_ (by first | omega | (simp; omega) | (simp; done)) _ | (refine New.trans ?_ (by assumption))))⟩
    · have h2f := bool_no h2
      have WB := Lib.hid (show ttB s k a b = false by unfold ttB; rw [h1, h2f]; rfl)
      have WM := Lib.hid (ttM_no WB.out)
      have H1 := Lib.hid h1
      have H2 := Lib.hid h2f
      clear h1 h2 h2f
      go_enter Try.func9, Try.ntmps9
      go_wp2_with fail
      refine (isThinning_any _ _ _).mono ?_
      rintro e w1 ⟨rfl, n1⟩
      rw [H1.out]
      have A0 : w1.cell? ⟨w.heap.size, 0, none⟩ = some (.int .i64 a) := n1.cell (by simp)
      have A1 : w1.cell? ⟨w.heap.size, 1, none⟩ = some (.int .i64 b) := n1.cell (by simp)
      have N1 := Lib.hid (show New w w1 from New.trans (by repeat (first | with_reducible exact New.refl _ | with_reducible assumption | refine New.drewN ?_ _ | refine New.drew ?_ | refine New.alloc ?_ _ | refine New.setCell ?_ (by first | omega | (simp; omega) | (simp; done)) _ | (refine New.trans ?_ (by assumption)))) n1); clear n1
      go_wp2_with fail
      refine (iIsRatio_any _ a b).mono ?_
      rintro e w2 ⟨rfl, n2⟩
      rw [H2.out]
      replace A0 := n2.cell A0
      replace A1 := n2.cell A1
      have N2 := Lib.hid (N1.out.trans n2); clear n2 N1
      go_wp2
      go_ret2
      exact ⟨by rw [WB.out, WM.out]; rfl, by have := N2.out; (repeat (first | with_reducible exact New.refl _ | with_reducible assumption | refine New.drewN ?_ _ | refine New.drew ?_ | refine New.alloc ?_ _ | refine New.setCell ?_ (by first | omega | (simp; omega) | (simp; done)) _ | (refine New.trans ?_ (by assumption))))⟩
  · have h1f := bool_no h1
    have WB := Lib.hid (show ttB s k a b = false by unfold ttB; rw [h1f]; rfl)
    have WM := Lib.hid (ttM_no WB.out)
    have H1 := Lib.hid h1f
    clear h1 h1f
    go_enter Try.func9, Try.ntmps9
    go_wp2_with fail
    refine (isThinning_any _ _ _).mono ?_
    rintro e w1 ⟨rfl, n1⟩
    rw [H1.out]
    have A0 : w1.cell? ⟨w.heap.size, 0, none⟩ = some (.int .i64 a) := n1.cell (by simp)
    have A1 : w1.cell? ⟨w.heap.size, 1, none⟩ = some (.int .i64 b) := n1.cell (by simp)
    have N1 := Lib.hid (show New w w1 from New.trans (by repeat (first | with_reducible exact New.refl _ | with_reducible assumption | refine New.drewN ?_ _ | refine New.drew ?_ | refine New.alloc ?_ _ | refine New.setCell ?_ (by first | omega | (simp; omega) | (simp; done)) _ | (refine New.trans ?_ (by assumption)))) n1); clear n1
    go_wp2
    go_ret2
    exact ⟨by rw [WB.out, WM.out]; rfl, by have := N1.out; (repeat (first | with_reducible exact New.refl _ | with_reducible assumption | refine New.drewN ?_ _ | refine New.drew ?_ | refine New.alloc ?_ _ | refine New.setCell ?_ (by first | omega | (simp; omega) | (simp; done)) _ | (refine New.trans ?_ (by assumption))))⟩
end Go.Proofs.Ytefpnlimkelehaa
