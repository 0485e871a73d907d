/- The sum of all salt. -/
import Derived.Test.YtidklnpohgmnpaaSh
namespace Go.Proofs.Ytidklnpohgmnpaa
open Go.RowKit Go.IntWalk

theorem sg_prod {b d : Int} (b1 : 1 ≤ b) (b2 : b ≤ 1000000000) (d1 : 1 ≤ d) (d2 : d ≤ 1000000000) : 1 ≤ b * d ∧ b * d ≤ 1000000000000000000 := by
  have k1 := Int.mul_le_mul_of_nonneg_right b2 (show 0 ≤ d by omega)
  have k2 := Int.mul_le_mul_of_nonneg_right b1 (show 0 ≤ d by omega)
  omega
theorem sg_mul3 {x y c d : Int} (h : sgR x y = true) (k : sgR c d = true) : -1000000000000000000 ≤ x * d ∧ x * d ≤ 1000000000000000000 := by
  obtain ⟨_, ⟨a1, a2⟩, _⟩ := sgR_iff.1 h
  obtain ⟨⟨b1, b2⟩, _, _⟩ := sgR_iff.1 k
  have k1 := Int.mul_le_mul_of_nonneg_right a2 (show 0 ≤ d by omega)
  have k2 := Int.mul_le_mul_of_nonneg_right a1 (show 0 ≤ d by omega)
  omega
/-- One more salt. -/
def addR (p q : Int × Int) : Int × Int := red (p.1 * q.2 + q.1 * p.2) (p.2 * q.2)
/-- The sum of the first k salts, if all sums on the way are ratios. -/
def totR (K : List (Int × Int)) : Nat → Option (Int × Int)
  | 0 => some (0, 1)
  | k + 1 => (totR K k).bind fun p => if sgR (addR p (K[k]?.getD (0, 0))).1 (addR p (K[k]?.getD (0, 0))).2 = true then some (addR p (K[k]?.getD (0, 0))) else none
theorem totR_good {K : List (Int × Int)} : ∀ {t : Nat} {p : Int × Int}, totR K t = some p → sgR p.1 p.2 = true
  | 0, p, h => by
    have e : (0, 1) = p := by simpa [totR] using h
    subst e; decide
  | t + 1, p, h => by
    unfold totR at h
    rw [Option.bind_eq_some_iff] at h
    obtain ⟨q, _, h⟩ := h
    split at h
    · rename_i hg
      cases h; exact hg
    · cases h
theorem totR_yes {K : List (Int × Int)} {t : Nat} {p q : Int × Int} (h : totR K t = some p) (hq : addR p (K[t]?.getD (0, 0)) = q) (hg : sgR q.1 q.2 = true) : totR K (t + 1) = some q := by
  subst hq
  unfold totR
  rw [h]
  simp [hg]
theorem totR_no {K : List (Int × Int)} {t : Nat} {p q : Int × Int} (h : totR K t = some p) (hq : addR p (K[t]?.getD (0, 0)) = q) (hg : sgR q.1 q.2 = false) : totR K (t + 1) = none := by
  subst hq
  unfold totR
  rw [h]
  simp [hg]
theorem totR_none {K : List (Int × Int)} {t : Nat} (h : totR K t = none) : ∀ n, totR K (t + n) = none
  | 0 => h
  | n + 1 => by
    rw [← Nat.add_assoc]
    unfold totR
    rw [totR_none h n]; rfl
def tsB (S H : List Int) (K : List (Int × Int)) : Bool := brB S H K && (totR K K.length).isSome
def tsM (S H : List Int) (K : List (Int × Int)) : Int × Int := if tsB S H K = true then (totR K K.length).getD (0, 0) else (0, 0)
theorem tsM_no {S H : List Int} {K : List (Int × Int)} (h : tsB S H K = false) : tsM S H K = (0, 0) := by unfold tsM; rw [h]; rfl
theorem tsB_of {S H : List Int} {K : List (Int × Int)} (h1 : brB S H K = true) {o : Option (Int × Int)} (h : totR K K.length = o) : tsB S H K = o.isSome := by unfold tsB; rw [h1, h]; rfl
theorem tsM_of {S H : List Int} {K : List (Int × Int)} (h1 : brB S H K = true) {o : Option (Int × Int)} (h : totR K K.length = o) : tsM S H K = o.getD (0, 0) := by
  unfold tsM
  rw [tsB_of h1 h, h]
  cases o <;> rfl

set_option maxRecDepth 100000 in
set_option maxHeartbeats 2000000 in
theorem saTotal_any (w : World) (aa ab ak : Option Addr) (n m r ca cb ck : Nat) (S H : List Int) (K : List (Int × Int)) (h1 : Ints w aa n ca S) (h2 : Ints w ab m cb H) (h3 : Ratios w ak r ck K) (hb : BrOk S H K) :
    Calls Try.prog 55 #[brV aa n ca ab m cb ak r ck] w fun e w' => e = .returned (.tuple #[ratV ((totR K K.length).getD (0, 0)), .bool (totR K K.length).isSome]) ∧ New w w' := by
  have HA := Lib.hid h1; clear h1
  have HB := Lib.hid h2; clear h2
  have HK := Lib.hid h3; clear h3
  have LK := Lib.hid HK.out.len
  have br := HK.out.2.2.1
  have HBR := Lib.hid hb; clear hb
  rw [← LK.out]
  have hwb : w.heap.size + 1 + 1 ≠ w.heap.size + 1 := by omega
  go_enter Try.func55, Try.ntmps55
  go_wp2
  obtain ⟨v0, hv0⟩ : ∃ xx : World, xx = ((w.alloc (.cells #[.slice aa n ca, .slice ab m cb, .slice ak r ck] 39)).alloc (.cells #[.int .i64 0, .int .i64 0] 25)).alloc (.cells #[.int .i64 0, .int .i64 1] 25) := ⟨_, rfl⟩
  rw [← hv0]
  obtain ⟨B, hB⟩ : ∃ B, B = w.heap.size + 1 + 1 := ⟨_, rfl⟩
  have C0 := Lib.hid (show Pr v0 B (.int .i64 0) (.int .i64 1) by
    have := Pr.fresh ((w.alloc (.cells #[.slice aa n ca, .slice ab m cb, .slice ak r ck] 39)).alloc (.cells #[.int .i64 0, .int .i64 0] 25)) (.int .i64 0) (.int .i64 1) 25
    simp only [World.size_alloc] at this
    rw [hv0, hB]; exact this)
  have R0 := Lib.hid (show Pr v0 (w.heap.size + 1) (.int .i64 0) (.int .i64 0) by
    have := (Pr.fresh (w.alloc (.cells #[.slice aa n ca, .slice ab m cb, .slice ak r ck] 39)) (.int .i64 0) (.int .i64 0) 25).alloc (.cells #[.int .i64 0, .int .i64 1] 25)
    simp only [World.size_alloc] at this
    rw [hv0]; exact this)
  have N0 := Lib.hid (show New w v0 by rw [hv0]; exact (by repeat (first | with_reducible exact New.refl _ | with_reducible assumption | refine New.drewN ?_ _ | refine New.drew ?_ | refine New.alloc ?_ _ | refine New.setCell ?_ (by first | omega | (simp; omega) | (simp; done)) _ | (refine New.trans ?_ (by assumption)))))
  rw [← hB] at hwb ⊢
  have zB : w.heap.size ≤ B := by omega
  clear hv0 hB
  go_loopw [13] (fun i wr => ∃ (j : Nat) (p : Int × Int), j ≤ r ∧ i = .int .i64 (j : Int) ∧ totR K j = some p ∧ Pr wr B (.int .i64 p.1) (.int .i64 p.2) ∧ Pr wr (w.heap.size + 1) (.int .i64 0) (.int .i64 0) ∧ New w wr) (fun i _ => r - (intOf i).toNat)
  case atStart => exact ⟨0, (0, 1), Nat.zero_le _, rfl, rfl, C0.out, R0.out, N0.out⟩
  case round =>
    obtain ⟨j, ⟨a, b⟩, hj, rfl, hp, hc, hr, hn⟩ := hrel
    simp only at hc
    have HN := Lib.hid hn; clear hn
    have HC := Lib.hid hc
    have HR := Lib.hid hr
    obtain ⟨c0, c1, f0, f1⟩ := hc
    obtain ⟨r0, r1, y0, y1⟩ := hr
    have hg := totR_good hp
    have HP := Lib.hid hp; clear hp
    simp only at hg
    have zc0 := HC.out.lt
    have zr0 := HR.out.lt
    by_cases hlt : (j : Int) < r
    · have hjr : j < r := by omega
      obtain ⟨bs, os, e1, g0, g1⟩ := (HK.out.new HN.out).2.2.2.1 j hjr
      have qg := (HBR.out.at (i := j) (by have := HBR.out.2.1; have := LK.out; omega)).2.1
      obtain ⟨⟨x, y⟩, hxy⟩ : ∃ q, q = K[j]?.getD (0, 0) := ⟨_, rfl⟩
      rw [← hxy] at g0 g1 qg
      simp only at g0 g1 qg
      obtain ⟨⟨X, Y⟩, hP⟩ : ∃ P, P = addR (a, b) (x, y) := ⟨_, rfl⟩
      have HX := Lib.hid (show red (a * y + x * b) (b * y) = (X, Y) from hP.symm)
      have HA2 := Lib.hid (show addR (a, b) (K[j]?.getD (0, 0)) = (X, Y) by rw [← hxy]; exact hP.symm)
      obtain ⟨m1, m2⟩ := sg_mul3 hg qg
      obtain ⟨m3, m4⟩ := sg_mul3 qg hg
      obtain ⟨⟨d1, d2⟩, _, _⟩ := sgR_iff.1 hg
      obtain ⟨⟨d3, d4⟩, _, _⟩ := sgR_iff.1 qg
      obtain ⟨m5, m6⟩ := sg_prod d1 d2 d3 d4
      clear hxy hP hg qg d1 d2 d3 d4
      subst e1
      by_cases hg2 : sgR X Y = true
      · have HY := Lib.hid (totR_yes HP.out HA2.out hg2)
        have HG2 := Lib.hid hg2; clear hg2
        go_wp2_with fail
        refine (saPlus_any _ a b x y (by omega) (by omega) (by omega) (by omega) (by omega) (by omega)).mono ?_
        rintro e w1 ⟨rfl, n1⟩
        rw [HX.out, HG2.out]
        have C1 := Lib.hid (HC.out.new ((New.refl _).alloc _ |>.trans n1))
        have R1 := Lib.hid (HR.out.new ((New.refl _).alloc _ |>.trans n1))
        have zr := C1.out.lt
        have zr2 := R1.out.lt
        have N1 := Lib.hid (HN.out.trans ((New.refl _).alloc _ |>.trans n1)); clear n1 HN c0 c1 f0 f1 r0 r1 y0 y1
        obtain ⟨c0, c1, f0, f1⟩ := C1.out
        go_wp2
        go_roundw
        case rel =>
          refine ⟨j + 1, (X, Y), by omega, by go_num, HY.out, (C1.out.put _ _).alloc _, (R1.out.apart (by omega) _ _).alloc _, ?_⟩
          have := N1.out
          (repeat (first | with_reducible exact New.refl _ | with_reducible assumption | refine New.drewN ?_ _ | refine New.drew ?_ | refine New.alloc ?_ _ | refine New.setCell ?_ (by first | omega | (simp; omega) | (simp; done)) _ | (refine New.trans ?_ (by assumption))))
        case measure => simp [intOf]; omega
      · have hg2 := bool_no hg2
        have HY := Lib.hid (totR_no HP.out HA2.out hg2)
        have HG2 := Lib.hid hg2; clear hg2
        have HZ := Lib.hid (show totR K r = none by have := totR_none HY.out (r - (j + 1)); rw [show j + 1 + (r - (j + 1)) = r by omega] at this; exact this)
        go_wp2_with fail
        refine (saPlus_any _ a b x y (by omega) (by omega) (by omega) (by omega) (by omega) (by omega)).mono ?_
        rintro e w1 ⟨rfl, n1⟩
        rw [HX.out, HG2.out]
        have C1 := Lib.hid (HC.out.new ((New.refl _).alloc _ |>.trans n1))
        have R1 := Lib.hid (HR.out.new ((New.refl _).alloc _ |>.trans n1))
        have zr := C1.out.lt
        have zr2 := R1.out.lt
        have N1 := Lib.hid (HN.out.trans ((New.refl _).alloc _ |>.trans n1)); clear n1 HN c0 c1 f0 f1 r0 r1 y0 y1
        obtain ⟨r0, r1, y0, y1⟩ := R1.out
        go_wp2
        have k9 := (R1.out.put (.int .i64 0) (.int .i64 0)).alloc (.cells #[.int .i64 X, .int .i64 Y] 25)
        refine bodyPost_ret (v := .tuple #[ratV (0, 0), .bool false]) (by simp [results, Try.results55, go_sem, k9.1, k9.2.1]) rfl ⟨by rw [HZ.out]; rfl, ?_⟩
        have := N1.out
        (repeat (first | with_reducible exact New.refl _ | with_reducible assumption | refine New.drewN ?_ _ | refine New.drew ?_ | refine New.alloc ?_ _ | refine New.setCell ?_ (by first | omega | (simp; omega) | (simp; done)) _ | (refine New.trans ?_ (by assumption))))
    · obtain rfl : j = r := by omega
      go_wp2
      have k9 := HR.out.put (.int .i64 a) (.int .i64 b)
      refine bodyPost_ret (v := .tuple #[ratV (a, b), .bool true]) (by simp [results, Try.results55, go_sem, k9.1, k9.2.1]) rfl ⟨by rw [HP.out]; rfl, ?_⟩
      have := HN.out
      (repeat (first | with_reducible exact New.refl _ | with_reducible assumption | refine New.drewN ?_ _ | refine New.drew ?_ | refine New.alloc ?_ _ | refine New.setCell ?_ (by first | omega | (simp; omega) | (simp; done)) _ | (refine New.trans ?_ (by assumption))))

set_option maxRecDepth 100000 in
set_option maxHeartbeats 1000000 in
theorem sTotalSalt_any (w : World) (aa ab ak : Option Addr) (n m r ca cb ck : Nat) (S H : List Int) (K : List (Int × Int)) (h1 : Ints w aa n ca S) (h2 : Ints w ab m cb H) (h3 : Ratios w ak r ck K) :
    Calls Try.prog 24 #[brV aa n ca ab m cb ak r ck] w fun e w' => e = .returned (.tuple #[ratV (tsM S H K), .bool (tsB S H K)]) ∧ New w w' := by
  have HA := Lib.hid h1; clear h1
  have HB := Lib.hid h2; clear h2
  have HK := Lib.hid h3; clear h3
  have LK := Lib.hid HK.out.len
  have br := HK.out.2.2.1
  by_cases gb : brB S H K = true
  · have HBR := Lib.hid (brB_iff.1 gb)
    obtain ⟨oo, ho⟩ : ∃ oo, totR K K.length = oo := ⟨_, rfl⟩
    have WB := Lib.hid (tsB_of gb ho)
    have WM := Lib.hid (tsM_of gb ho)
    have GB := Lib.hid gb
    have HO := Lib.hid ho
    clear gb ho
    go_enter Try.func24, Try.ntmps24
    go_wp2_with fail
    refine (saBrine_any _ _ _ _ _ _ _ _ _ _ S H K (HA.out.new (by repeat (first | with_reducible exact New.refl _ | with_reducible assumption | refine New.drewN ?_ _ | refine New.drew ?_ | refine New.alloc ?_ _ | refine New.setCell ?_ (by first | omega | (simp; omega) | (simp; done)) _ | (refine New.trans ?_ (by assumption))))) (HB.out.new (by repeat (first | with_reducible exact New.refl _ | with_reducible assumption | refine New.drewN ?_ _ | refine New.drew ?_ | refine New.alloc ?_ _ | refine New.setCell ?_ (by first | omega | (simp; omega) | (simp; done)) _ | (refine New.trans ?_ (by assumption))))) (HK.out.new (by repeat (first | with_reducible exact New.refl _ | with_reducible assumption | refine New.drewN ?_ _ | refine New.drew ?_ | refine New.alloc ?_ _ | refine New.setCell ?_ (by first | omega | (simp; omega) | (simp; done)) _ | (refine New.trans ?_ (by assumption)))))).mono ?_
    rintro e w1 ⟨rfl, n1⟩
    rw [GB.out]
    have b0 : w1.cell? ⟨w.heap.size, 0, none⟩ = some (.slice aa n ca) := n1.cell (by simp [go_sem])
    have b1 : w1.cell? ⟨w.heap.size, 1, none⟩ = some (.slice ab m cb) := n1.cell (by simp [go_sem])
    have b2 : w1.cell? ⟨w.heap.size, 2, none⟩ = some (.slice ak r ck) := n1.cell (by simp [go_sem])
    have R1 := Lib.hid ((Pr.fresh (w.alloc (.cells #[.slice aa n ca, .slice ab m cb, .slice ak r ck] 39)) (.int .i64 0) (.int .i64 0) 25).new n1)
    simp only [World.size_alloc] at R1
    have N1 := Lib.hid (show New w w1 from New.trans (by repeat (first | with_reducible exact New.refl _ | with_reducible assumption | refine New.drewN ?_ _ | refine New.drew ?_ | refine New.alloc ?_ _ | refine New.setCell ?_ (by first | omega | (simp; omega) | (simp; done)) _ | (refine New.trans ?_ (by assumption)))) n1); clear n1
    go_wp2_with fail
    refine (saTotal_any _ _ _ _ _ _ _ _ _ _ S H K (HA.out.new N1.out) (HB.out.new N1.out) (HK.out.new N1.out) HBR.out).mono ?_
    rintro e w2 ⟨rfl, n2⟩
    rw [HO.out]
    have R2 := Lib.hid (R1.out.new n2)
    have N2 := Lib.hid (N1.out.trans n2); clear n2
    obtain ⟨P, hP⟩ : ∃ P, P = oo.getD (0, 0) := ⟨_, rfl⟩
    obtain ⟨g, hg⟩ : ∃ g, g = oo.isSome := ⟨_, rfl⟩
    rw [← hP, ← hg]
    have HP := Lib.hid hP; have HG := Lib.hid hg; clear hP hg
    obtain ⟨r0, r1, y0, y1⟩ := R2.out
    go_wp2
    have k9 := R2.out.put (.int .i64 P.1) (.int .i64 P.2)
    refine bodyPost_ret (v := .tuple #[ratV P, .bool g]) (by simp [results, Try.results24, go_sem, k9.1, k9.2.1]) rfl ⟨by rw [WM.out, WB.out, HP.out, HG.out], ?_⟩
    have := N2.out
    (repeat (first | with_reducible exact New.refl _ | with_reducible assumption | refine New.drewN ?_ _ | refine New.drew ?_ | refine New.alloc ?_ _ | refine New.setCell ?_ (by first | omega | (simp; omega) | (simp; done)) _ | (refine New.trans ?_ (by assumption))))
  · have gb := bool_no gb
    have WB := Lib.hid (show tsB S H K = false by unfold tsB; rw [gb]; rfl)
    have WM := Lib.hid (tsM_no WB.out)
    have GB := Lib.hid gb; clear gb
    go_enter Try.func24, Try.ntmps24
    go_wp2_with fail
    refine (saBrine_any _ _ _ _ _ _ _ _ _ _ S H K (HA.out.new (by repeat (first | with_reducible exact New.refl _ | with_reducible assumption | refine New.drewN ?_ _ | refine New.drew ?_ | refine New.alloc ?_ _ | refine New.setCell ?_ (by first | omega | (simp; omega) | (simp; done)) _ | (refine New.trans ?_ (by assumption))))) (HB.out.new (by repeat (first | with_reducible exact New.refl _ | with_reducible assumption | refine New.drewN ?_ _ | refine New.drew ?_ | refine New.alloc ?_ _ | refine New.setCell ?_ (by first | omega | (simp; omega) | (simp; done)) _ | (refine New.trans ?_ (by assumption))))) (HK.out.new (by repeat (first | with_reducible exact New.refl _ | with_reducible assumption | refine New.drewN ?_ _ | refine New.drew ?_ | refine New.alloc ?_ _ | refine New.setCell ?_ (by first | omega | (simp; omega) | (simp; done)) _ | (refine New.trans ?_ (by assumption)))))).mono ?_
    rintro e w1 ⟨rfl, n1⟩
    rw [GB.out]
    have b0 : w1.cell? ⟨w.heap.size, 0, none⟩ = some (.slice aa n ca) := n1.cell (by simp [go_sem])
    have b1 : w1.cell? ⟨w.heap.size, 1, none⟩ = some (.slice ab m cb) := n1.cell (by simp [go_sem])
    have b2 : w1.cell? ⟨w.heap.size, 2, none⟩ = some (.slice ak r ck) := n1.cell (by simp [go_sem])
    have R1 := Lib.hid ((Pr.fresh (w.alloc (.cells #[.slice aa n ca, .slice ab m cb, .slice ak r ck] 39)) (.int .i64 0) (.int .i64 0) 25).new n1)
    simp only [World.size_alloc] at R1
    have N1 := Lib.hid (show New w w1 from New.trans (by repeat (first | with_reducible exact New.refl _ | with_reducible assumption | refine New.drewN ?_ _ | refine New.drew ?_ | refine New.alloc ?_ _ | refine New.setCell ?_ (by first | omega | (simp; omega) | (simp; done)) _ | (refine New.trans ?_ (by assumption)))) n1); clear n1
    obtain ⟨r0, r1, y0, y1⟩ := R1.out
    go_wp2
    have k9 := R1.out.put (.int .i64 0) (.int .i64 0)
    refine bodyPost_ret (v := .tuple #[ratV (0, 0), .bool false]) (by simp [results, Try.results24, go_sem, k9.1, k9.2.1]) rfl ⟨by rw [WM.out, WB.out], ?_⟩
    have := N1.out
    (repeat (first | with_reducible exact New.refl _ | with_reducible assumption | refine New.drewN ?_ _ | refine New.drew ?_ | refine New.alloc ?_ _ | refine New.setCell ?_ (by first | omega | (simp; omega) | (simp; done)) _ | (refine New.trans ?_ (by assumption))))

set_option maxRecDepth 100000 in
set_option maxHeartbeats 2000000 in
theorem iTotalSalt_any (w : World) (aa ab ak : Option Addr) (n m r ca cb ck : Nat) (S H : List Int) (K : List (Int × Int)) (h1 : Ints w aa n ca S) (h2 : Ints w ab m cb H) (h3 : Ratios w ak r ck K) :
    Calls Try.prog 25 #[brV aa n ca ab m cb ak r ck] w fun e w' => e = .returned (.tuple #[ratV (tsM S H K), .bool (tsB S H K)]) ∧ New w w' := by
  have HA := Lib.hid h1; clear h1
  have HB := Lib.hid h2; clear h2
  have HK := Lib.hid h3; clear h3
  have LK := Lib.hid HK.out.len
  have br := HK.out.2.2.1
  by_cases gb : brB S H K = true
  · have HBR := Lib.hid (brB_iff.1 gb)
    have WB := Lib.hid (fun oo => tsB_of (S := S) (H := H) gb (o := oo))
    have WM := Lib.hid (fun oo => tsM_of (S := S) (H := H) gb (o := oo))
    have GB := Lib.hid gb
    clear gb
    rw [← LK.out] at WB WM
    go_enter Try.func25, Try.ntmps25
    go_wp2_with fail
    refine (iIsBrine_any _ _ _ _ _ _ _ _ _ _ S H K (HA.out.new (by repeat (first | with_reducible exact New.refl _ | with_reducible assumption | refine New.drewN ?_ _ | refine New.drew ?_ | refine New.alloc ?_ _ | refine New.setCell ?_ (by first | omega | (simp; omega) | (simp; done)) _ | (refine New.trans ?_ (by assumption))))) (HB.out.new (by repeat (first | with_reducible exact New.refl _ | with_reducible assumption | refine New.drewN ?_ _ | refine New.drew ?_ | refine New.alloc ?_ _ | refine New.setCell ?_ (by first | omega | (simp; omega) | (simp; done)) _ | (refine New.trans ?_ (by assumption))))) (HK.out.new (by repeat (first | with_reducible exact New.refl _ | with_reducible assumption | refine New.drewN ?_ _ | refine New.drew ?_ | refine New.alloc ?_ _ | refine New.setCell ?_ (by first | omega | (simp; omega) | (simp; done)) _ | (refine New.trans ?_ (by assumption)))))).mono ?_
    rintro e w1 ⟨rfl, n1⟩
    rw [GB.out]
    have b0 : w1.cell? ⟨w.heap.size, 0, none⟩ = some (.slice aa n ca) := n1.cell (by simp [go_sem])
    have b1 : w1.cell? ⟨w.heap.size, 1, none⟩ = some (.slice ab m cb) := n1.cell (by simp [go_sem])
    have b2 : w1.cell? ⟨w.heap.size, 2, none⟩ = some (.slice ak r ck) := n1.cell (by simp [go_sem])
    have R1 := Lib.hid ((Pr.fresh (w.alloc (.cells #[.slice aa n ca, .slice ab m cb, .slice ak r ck] 39)) (.int .i64 0) (.int .i64 0) 25).new n1)
    simp only [World.size_alloc] at R1
    have N1 := Lib.hid (show New w w1 from New.trans (by repeat (first | with_reducible exact New.refl _ | with_reducible assumption | refine New.drewN ?_ _ | refine New.drew ?_ | refine New.alloc ?_ _ | refine New.setCell ?_ (by first | omega | (simp; omega) | (simp; done)) _ | (refine New.trans ?_ (by assumption)))) n1); clear n1
    go_wp2_with fail
    refine (wholeRatio_any _ _).mono ?_
    rintro e w2 ⟨rfl, n2⟩
    replace b2 := n2.cell b2
    have R2 := Lib.hid (R1.out.new n2)
    have zz := R2.out.lt
    have N2 := Lib.hid (N1.out.trans n2); clear n2 N1 R1 b0 b1
    go_upto_region 4 with fail
    obtain ⟨v0, hv0⟩ : ∃ xx : World, xx = w2.alloc (.cells #[.int .i64 0, .int .i64 1] 25) := ⟨_, rfl⟩
    rw [← hv0]
    obtain ⟨B, hB⟩ : ∃ B, B = w2.heap.size := ⟨_, rfl⟩
    have C0 := Lib.hid (show Pr v0 B (.int .i64 0) (.int .i64 1) by rw [hv0, hB]; exact Pr.fresh _ _ _ _)
    have R0 := Lib.hid (show Pr v0 (w.heap.size + 1) (.int .i64 0) (.int .i64 0) by rw [hv0]; exact R2.out.alloc _)
    have N0 := Lib.hid (show New w v0 by rw [hv0]; exact N2.out.alloc _)
    have b2 : v0.cell? ⟨w.heap.size, 2, none⟩ = some (.slice ak r ck) := by rw [hv0]; exact World.cell_kept b2
    rw [← hB] at zz ⊢
    have zB : w.heap.size ≤ B := by omega
    clear hv0 hB R2 N2
    go_wp2_with fail
    go_loopw [15] (fun i wr => ∃ (j : Nat) (p : Int × Int), j ≤ r ∧ i = .int .i64 (j : Int) ∧ totR K j = some p ∧ Pr wr B (.int .i64 p.1) (.int .i64 p.2) ∧ Pr wr (w.heap.size + 1) (.int .i64 0) (.int .i64 0) ∧ New w wr) (fun i _ => r - (intOf i).toNat)
    case atStart => exact ⟨0, (0, 1), Nat.zero_le _, rfl, rfl, C0.out, R0.out, N0.out⟩
    case round =>
      obtain ⟨j, ⟨a, b⟩, hj, rfl, hp, hc, hr, hn⟩ := hrel
      simp only at hc
      have HN := Lib.hid hn; clear hn
      have HC := Lib.hid hc
      have HR := Lib.hid hr
      obtain ⟨c0, c1, f0, f1⟩ := hc
      obtain ⟨r0, r1, y0, y1⟩ := hr
      have hg := totR_good hp
      have HP := Lib.hid hp; clear hp
      simp only at hg
      have zc0 := HC.out.lt
      have zr0 := HR.out.lt
      by_cases hlt : (j : Int) < r
      · have hjr : j < r := by omega
        obtain ⟨bs, os, e1, g0, g1⟩ := (HK.out.new HN.out).2.2.2.1 j hjr
        have qg := (HBR.out.at (i := j) (by have := HBR.out.2.1; have := LK.out; omega)).2.1
        obtain ⟨⟨x, y⟩, hxy⟩ : ∃ q, q = K[j]?.getD (0, 0) := ⟨_, rfl⟩
        rw [← hxy] at g0 g1 qg
        simp only at g0 g1 qg
        obtain ⟨⟨X, Y⟩, hP⟩ : ∃ P, P = addR (a, b) (x, y) := ⟨_, rfl⟩
        have HX := Lib.hid (show red (a * y + x * b) (b * y) = (X, Y) from hP.symm)
        have HA2 := Lib.hid (show addR (a, b) (K[j]?.getD (0, 0)) = (X, Y) by rw [← hxy]; exact hP.symm)
        obtain ⟨m1, m2⟩ := sg_mul3 hg qg
        obtain ⟨m3, m4⟩ := sg_mul3 qg hg
        obtain ⟨⟨d1, d2⟩, _, _⟩ := sgR_iff.1 hg
        obtain ⟨⟨d3, d4⟩, _, _⟩ := sgR_iff.1 qg
        obtain ⟨m5, m6⟩ := sg_prod d1 d2 d3 d4
        clear hxy hP hg qg d1 d2 d3 d4
        subst e1
        by_cases hg2 : sgR X Y = true
        · have HY := Lib.hid (totR_yes HP.out HA2.out hg2)
          have HG2 := Lib.hid hg2; clear hg2
          go_wp2_with fail
          refine (plus_any _ a b x y (by omega) (by omega) (by omega) (by omega) (by omega) (by omega)).mono ?_
          rintro e w1 ⟨rfl, n1⟩
          rw [HX.out]
          have C1 := Lib.hid (HC.out.new ((New.refl _).alloc _ |>.trans n1))
          have R1 := Lib.hid (HR.out.new ((New.refl _).alloc _ |>.trans n1))
          have zr := C1.out.lt
          have zr2 := R1.out.lt
          have N1 := Lib.hid (HN.out.trans ((New.refl _).alloc _ |>.trans n1)); clear n1 HN c0 c1 f0 f1 r0 r1 y0 y1
          obtain ⟨c0, c1, f0, f1⟩ := C1.out
          go_upto_region 8 with fail
          obtain ⟨v2, hv2⟩ : ∃ xx : World, xx = (w1.setCell ⟨B, 0, none⟩ (.int .i64 X)).setCell ⟨B, 1, none⟩ (.int .i64 Y) := ⟨_, rfl⟩
          rw [← hv2]
          have C2 := Lib.hid (show Pr v2 B (.int .i64 X) (.int .i64 Y) by rw [hv2]; exact C1.out.put _ _)
          have R2 := Lib.hid (show Pr v2 (w.heap.size + 1) (.int .i64 0) (.int .i64 0) by rw [hv2]; exact R1.out.apart (by omega) _ _)
          have N2 := Lib.hid (show New w v2 by rw [hv2]; exact (N1.out.setCell (by omega) _).setCell (by omega) _)
          clear hv2 C1 R1 N1 c0 c1 f0 f1
          obtain ⟨c0, c1, f0, f1⟩ := C2.out
          go_wp2_with fail
          refine (iIsRatio_any _ X Y).mono ?_
          rintro e w3 ⟨rfl, n3⟩
          rw [HG2.out]
          have C3 := Lib.hid (C2.out.new n3)
          have R3 := Lib.hid (R2.out.new n3)
          have N3 := Lib.hid (N2.out.trans n3); clear n3 N2 R2 C2 c0 c1 f0 f1
          go_wp2
          go_roundw
          case rel => exact ⟨j + 1, (X, Y), by omega, by go_num, HY.out, C3.out, R3.out, N3.out⟩
          case measure => simp [intOf]; omega
        · have hg2 := bool_no hg2
          have HY := Lib.hid (totR_no HP.out HA2.out hg2)
          have HG2 := Lib.hid hg2; clear hg2
          have HZ := Lib.hid (show totR K r = none by have := totR_none HY.out (r - (j + 1)); rw [show j + 1 + (r - (j + 1)) = r by omega] at this; exact this)
          go_wp2_with fail
          refine (plus_any _ a b x y (by omega) (by omega) (by omega) (by omega) (by omega) (by omega)).mono ?_
          rintro e w1 ⟨rfl, n1⟩
          rw [HX.out]
          have C1 := Lib.hid (HC.out.new ((New.refl _).alloc _ |>.trans n1))
          have R1 := Lib.hid (HR.out.new ((New.refl _).alloc _ |>.trans n1))
          have zr := C1.out.lt
          have zr2 := R1.out.lt
          have N1 := Lib.hid (HN.out.trans ((New.refl _).alloc _ |>.trans n1)); clear n1 HN c0 c1 f0 f1 r0 r1 y0 y1
          obtain ⟨c0, c1, f0, f1⟩ := C1.out
          go_upto_region 8 with fail
          obtain ⟨v2, hv2⟩ : ∃ xx : World, xx = (w1.setCell ⟨B, 0, none⟩ (.int .i64 X)).setCell ⟨B, 1, none⟩ (.int .i64 Y) := ⟨_, rfl⟩
          rw [← hv2]
          have C2 := Lib.hid (show Pr v2 B (.int .i64 X) (.int .i64 Y) by rw [hv2]; exact C1.out.put _ _)
          have R2 := Lib.hid (show Pr v2 (w.heap.size + 1) (.int .i64 0) (.int .i64 0) by rw [hv2]; exact R1.out.apart (by omega) _ _)
          have N2 := Lib.hid (show New w v2 by rw [hv2]; exact (N1.out.setCell (by omega) _).setCell (by omega) _)
          clear hv2 C1 R1 N1 c0 c1 f0 f1
          obtain ⟨c0, c1, f0, f1⟩ := C2.out
          go_wp2_with fail
          refine (iIsRatio_any _ X Y).mono ?_
          rintro e w3 ⟨rfl, n3⟩
          rw [HG2.out]
          have C3 := Lib.hid (C2.out.new n3)
          have R3 := Lib.hid (R2.out.new n3)
          have N3 := Lib.hid (N2.out.trans n3); clear n3 N2 R2 C2 c0 c1 f0 f1
          obtain ⟨r0, r1, y0, y1⟩ := R3.out
          go_wp2
          have k9 := R3.out.put (.int .i64 0) (.int .i64 0)
          refine bodyPost_ret (v := .tuple #[ratV (0, 0), .bool false]) (by simp [results, Try.results25, go_sem, k9.1, k9.2.1]) rfl ⟨by rw [WB.out _ HZ.out, WM.out _ HZ.out]; rfl, ?_⟩
          have := N3.out
          (repeat (first | with_reducible exact New.refl _ | with_reducible assumption | refine New.drewN ?_ _ | refine New.drew ?_ | refine New.alloc ?_ _ | refine New.setCell ?_ (by first | omega | (simp; omega) | (simp; done)) _ | (refine New.trans ?_ (by assumption))))
      · obtain rfl : j = r := by omega
        go_wp2
        have k9 := HR.out.put (.int .i64 a) (.int .i64 b)
        refine bodyPost_ret (v := .tuple #[ratV (a, b), .bool true]) (by simp [results, Try.results25, go_sem, k9.1, k9.2.1]) rfl ⟨by rw [WB.out _ HP.out, WM.out _ HP.out]; rfl, ?_⟩
        have := HN.out
        (repeat (first | with_reducible exact New.refl _ | with_reducible assumption | refine New.drewN ?_ _ | refine New.drew ?_ | refine New.alloc ?_ _ | refine New.setCell ?_ (by first | omega | (simp; omega) | (simp; done)) _ | (refine New.trans ?_ (by assumption))))
  · have gb := bool_no gb
    have WB := Lib.hid (show tsB S H K = false by unfold tsB; rw [gb]; rfl)
    have WM := Lib.hid (tsM_no WB.out)
    have GB := Lib.hid gb; clear gb
    go_enter Try.func25, Try.ntmps25
    go_wp2_with fail
    refine (iIsBrine_any _ _ _ _ _ _ _ _ _ _ S H K (HA.out.new (by repeat (first | with_reducible exact New.refl _ | with_reducible assumption | refine New.drewN ?_ _ | refine New.drew ?_ | refine New.alloc ?_ _ | refine New.setCell ?_ (by first | omega | (simp; omega) | (simp; done)) _ | (refine New.trans ?_ (by assumption))))) (HB.out.new (by repeat (first | with_reducible exact New.refl _ | with_reducible assumption | refine New.drewN ?_ _ | refine New.drew ?_ | refine New.alloc ?_ _ | refine New.setCell ?_ (by first | omega | (simp; omega) | (simp; done)) _ | (refine New.trans ?_ (by assumption))))) (HK.out.new (by repeat (first | with_reducible exact New.refl _ | with_reducible assumption | refine New.drewN ?_ _ | refine New.drew ?_ | refine New.alloc ?_ _ | refine New.setCell ?_ (by first | omega | (simp; omega) | (simp; done)) _ | (refine New.trans ?_ (by assumption)))))).mono ?_
    rintro e w1 ⟨rfl, n1⟩
    rw [GB.out]
    have b0 : w1.cell? ⟨w.heap.size, 0, none⟩ = some (.slice aa n ca) := n1.cell (by simp [go_sem])
    have b1 : w1.cell? ⟨w.heap.size, 1, none⟩ = some (.slice ab m cb) := n1.cell (by simp [go_sem])
    have b2 : w1.cell? ⟨w.heap.size, 2, none⟩ = some (.slice ak r ck) := n1.cell (by simp [go_sem])
    have R1 := Lib.hid ((Pr.fresh (w.alloc (.cells #[.slice aa n ca, .slice ab m cb, .slice ak r ck] 39)) (.int .i64 0) (.int .i64 0) 25).new n1)
    simp only [World.size_alloc] at R1
    have N1 := Lib.hid (show New w w1 from New.trans (by repeat (first | with_reducible exact New.refl _ | with_reducible assumption | refine New.drewN ?_ _ | refine New.drew ?_ | refine New.alloc ?_ _ | refine New.setCell ?_ (by first | omega | (simp; omega) | (simp; done)) _ | (refine New.trans ?_ (by assumption)))) n1); clear n1
    obtain ⟨r0, r1, y0, y1⟩ := R1.out
    go_wp2
    have k9 := R1.out.put (.int .i64 0) (.int .i64 0)
    refine bodyPost_ret (v := .tuple #[ratV (0, 0), .bool false]) (by simp [results, Try.results25, go_sem, k9.1, k9.2.1]) rfl ⟨by rw [WM.out, WB.out], ?_⟩
    have := N1.out
    (repeat (first | with_reducible exact New.refl _ | with_reducible assumption | refine New.drewN ?_ _ | refine New.drew ?_ | refine New.alloc ?_ _ | refine New.setCell ?_ (by first | omega | (simp; omega) | (simp; done)) _ | (refine New.trans ?_ (by assumption))))
end Go.Proofs.Ytidklnpohgmnpaa
