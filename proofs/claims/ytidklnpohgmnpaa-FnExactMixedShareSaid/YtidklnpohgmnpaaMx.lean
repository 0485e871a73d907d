/- The share if all were mixed. -/
import Derived.Test.YtidklnpohgmnpaaTs
import Derived.Test.YtidklnpohgmnpaaImpl4
import Derived.Test.YtidklnpohgmnpaaCutB
namespace Go.Proofs.Ytidklnpohgmnpaa
open Go.RowKit Go.IntWalk

def mxR (S H : List Int) (K : List (Int × Int)) : Int × Int := red (tsM S H K).1 ((tsM S H K).2 * sumOf H)
def mxB (S H : List Int) (K : List (Int × Int)) : Bool := tsB S H K && decide (sumOf H ≠ 0) && sgR (mxR S H K).1 (mxR S H K).2
def mxM (S H : List Int) (K : List (Int × Int)) : Int × Int := if mxB S H K = true then mxR S H K else (0, 0)
theorem mxM_no {S H : List Int} {K : List (Int × Int)} (h : mxB S H K = false) : mxM S H K = (0, 0) := by unfold mxM; rw [h]; rfl
theorem tsB_br {S H : List Int} {K : List (Int × Int)} (h : tsB S H K = true) : brB S H K = true := by
  unfold tsB at h
  rw [Bool.and_eq_true] at h
  exact h.1
theorem tsM_good {S H : List Int} {K : List (Int × Int)} (h : tsB S H K = true) : sgR (tsM S H K).1 (tsM S H K).2 = true := by
  cases ho : totR K K.length with
  | none => rw [tsB_of (tsB_br h) ho] at h; cases h
  | some p => rw [tsM_of (tsB_br h) ho]; exact totR_good ho
theorem br_sum {S H : List Int} {K : List (Int × Int)} (h : BrOk S H K) : (∀ j, j < H.length → 0 ≤ H[j]?.getD 0 ∧ H[j]?.getD 0 ≤ 60) ∧ 0 ≤ sumOf H ∧ sumOf H ≤ 300 := by
  have hv : ∀ j, j < H.length → 0 ≤ H[j]?.getD 0 ∧ H[j]?.getD 0 ≤ 60 := fun j hj => by have := h.1.at (j := j) (by have := h.1.2.1; omega); omega
  have hl : H.length ≤ 5 := by have := h.1.2.1; have := h.1.1; omega
  obtain ⟨s0, s1⟩ := sumOf_le H hv H.length (Nat.le_refl _)
  rw [List.take_length] at s0 s1
  exact ⟨hv, s0, by omega⟩
theorem mx_bds {a b h : Int} (hg : sgR a b = true) (h0 : 1 ≤ h) (h1 : h ≤ 300) : 1 ≤ b * h ∧ b * h ≤ 300000000000 ∧ -1000000000 ≤ a ∧ a ≤ 1000000000 := by
  obtain ⟨⟨b1, b2⟩, ⟨a1, a2⟩, _⟩ := sgR_iff.1 hg
  have k1 := Int.mul_le_mul_of_nonneg_right b2 (show 0 ≤ h by omega)
  have k2 := Int.mul_le_mul_of_nonneg_right b1 (show 0 ≤ h by omega)
  omega

set_option maxRecDepth 100000 in
set_option maxHeartbeats 2000000 in
theorem iMixedShare_any (w : World) (aa ab ak : Option Addr) (n m r ca cb ck : Nat) (S H : List Int) (K : List (Int × Int)) (h1 : Ints w aa n ca S) (h2 : Ints w ab m cb H) (h3 : Ratios w ak r ck K) :
    Calls Try.prog 35 #[brV aa n ca ab m cb ak r ck] w fun e w' => e = .returned (.tuple #[ratV (mxM S H K), .bool (mxB S H K)]) ∧ New w w' := by
  have HA := Lib.hid h1; clear h1
  have HB := Lib.hid h2; clear h2
  have HK := Lib.hid h3; clear h3
  by_cases tb : tsB S H K = true
  · have TB := Lib.hid tb
    have HBR := Lib.hid (brB_iff.1 (tsB_br tb))
    have hbs := br_sum HBR.out
    obtain ⟨sv, s0, s3⟩ := hbs
    have SV := Lib.hid sv; clear sv
    have GB := Lib.hid (goodB_iff.2 HBR.out.1)
    have hg := tsM_good tb
    obtain ⟨h, hh⟩ : ∃ h, h = sumOf H := ⟨_, rfl⟩
    have HH := Lib.hid hh.symm
    rw [← hh] at s0 s3
    have WB0 := Lib.hid (show mxB S H K = (decide (h ≠ 0) && sgR (mxR S H K).1 (mxR S H K).2) by unfold mxB; rw [tb, ← hh]; rfl)
    have WM0 := Lib.hid (show mxM S H K = if mxB S H K = true then mxR S H K else (0, 0) from rfl)
    have HXR := Lib.hid (show mxR S H K = red (tsM S H K).1 ((tsM S H K).2 * h) by rw [hh]; rfl)
    clear hh
    have SM := Lib.hid (show sumM S H = (h, true) by unfold sumM; rw [if_pos GB.out, HH.out])
    have HGG := Lib.hid hg
    clear tb hg
    by_cases hz : h = 0
    · subst hz
      have WB := Lib.hid (show mxB S H K = false by rw [WB0.out]; rfl)
      have WM := Lib.hid (mxM_no WB.out)
      go_enter Try.func35, Try.ntmps35
      go_wp2_with fail
      refine (iTotalSalt_any _ _ _ _ _ _ _ _ _ _ S H K (HA.out.new (by repeat (first | with_reducible exact New.refl _ | with_reducible assumption | refine New.drewN ?_ _ | refine New.drew ?_ | refine New.alloc ?_ _ | refine New.setCell ?_ (by first | omega | (simp; omega) | (simp; done)) _ | (refine New.trans ?_ (by assumption))))) (HB.out.new (by repeat (first | with_reducible exact New.refl _ | with_reducible assumption | refine New.drewN ?_ _ | refine New.drew ?_ | refine New.alloc ?_ _ | refine New.setCell ?_ (by first | omega | (simp; omega) | (simp; done)) _ | (refine New.trans ?_ (by assumption))))) (HK.out.new (by repeat (first | with_reducible exact New.refl _ | with_reducible assumption | refine New.drewN ?_ _ | refine New.drew ?_ | refine New.alloc ?_ _ | refine New.setCell ?_ (by first | omega | (simp; omega) | (simp; done)) _ | (refine New.trans ?_ (by assumption)))))).mono ?_
      rintro e w1 ⟨rfl, n1⟩
      rw [TB.out]
      obtain ⟨P, hP⟩ : ∃ P, P = tsM S H K := ⟨_, rfl⟩
      rw [← hP]
      have HP := Lib.hid hP; clear hP
      have b0 : w1.cell? ⟨w.heap.size, 0, none⟩ = some (.slice aa n ca) := n1.cell (by simp [go_sem])
      have b1 : w1.cell? ⟨w.heap.size, 1, none⟩ = some (.slice ab m cb) := n1.cell (by simp [go_sem])
      have R1 := Lib.hid ((Pr.fresh (w.alloc (.cells #[.slice aa n ca, .slice ab m cb, .slice ak r ck] 39)) (.int .i64 0) (.int .i64 0) 25).new n1)
      simp only [World.size_alloc] at R1
      have N1 := Lib.hid (show New w w1 from New.trans (by repeat (first | with_reducible exact New.refl _ | with_reducible assumption | refine New.drewN ?_ _ | refine New.drew ?_ | refine New.alloc ?_ _ | refine New.setCell ?_ (by first | omega | (simp; omega) | (simp; done)) _ | (refine New.trans ?_ (by assumption)))) n1); clear n1
      go_upto_region 2 with fail
      obtain ⟨v0, hv0⟩ : ∃ xx : World, xx = w1.alloc (.cells #[.int .i64 P.1, .int .i64 P.2] 25) := ⟨_, rfl⟩
      rw [← hv0]
      obtain ⟨B, hB⟩ : ∃ B, B = w1.heap.size := ⟨_, rfl⟩
      have C0 := Lib.hid (show Pr v0 B (.int .i64 P.1) (.int .i64 P.2) by rw [hv0, hB]; exact Pr.fresh _ _ _ _)
      have R0 := Lib.hid (show Pr v0 (w.heap.size + 1) (.int .i64 0) (.int .i64 0) by rw [hv0]; exact R1.out.alloc _)
      have zr := R1.out.lt
      rw [← hB] at zr ⊢
      have N0 := Lib.hid (show New w v0 by rw [hv0]; exact N1.out.alloc _)
      have b0 : v0.cell? ⟨w.heap.size, 0, none⟩ = some (.slice aa n ca) := by rw [hv0]; exact World.cell_kept b0
      have b1 : v0.cell? ⟨w.heap.size, 1, none⟩ = some (.slice ab m cb) := by rw [hv0]; exact World.cell_kept b1
      clear hv0 hB R1 N1
      go_wp2_with fail
      refine (iSumHeld_any _ _ _ _ _ _ _ S H (HA.out.new N0.out) (HB.out.new N0.out)).mono ?_
      rintro e w2 ⟨rfl, n2⟩
      rw [SM.out]
      have C2 := Lib.hid (C0.out.new n2)
      have R2 := Lib.hid (R0.out.new n2)
      have N2 := Lib.hid (N0.out.trans n2); clear n2 N0 C0 R0 b0 b1
      obtain ⟨r0, r1, y0, y1⟩ := R2.out
      obtain ⟨c0, c1, f0, f1⟩ := C2.out
      go_wp2
      have k9 := R2.out.put (.int .i64 0) (.int .i64 0)
      refine bodyPost_ret (v := .tuple #[ratV (0, 0), .bool false]) (by simp [results, Try.results35, go_sem, k9.1, k9.2.1]) rfl ⟨by rw [WM.out, WB.out], ?_⟩
      have := N2.out
      (repeat (first | with_reducible exact New.refl _ | with_reducible assumption | refine New.drewN ?_ _ | refine New.drew ?_ | refine New.alloc ?_ _ | refine New.setCell ?_ (by first | omega | (simp; omega) | (simp; done)) _ | (refine New.trans ?_ (by assumption))))
    · have hz' : (h == 0) = false := by simpa using hz
      obtain ⟨q1, q2, q3, q4⟩ := mx_bds (h := h) HGG.out (by omega) s3
      have Q1 := Lib.hid q1; have Q2 := Lib.hid q2; have Q3 := Lib.hid q3; have Q4 := Lib.hid q4
      clear q1 q2 q3 q4
      obtain ⟨X, hX⟩ : ∃ X, X = mxR S H K := ⟨_, rfl⟩
      obtain ⟨g, hg⟩ : ∃ g, g = sgR X.1 X.2 := ⟨_, rfl⟩
      have WB := Lib.hid (show mxB S H K = g by rw [WB0.out, decide_eq_true hz, hg, hX]; rfl)
      have WM := Lib.hid (show mxM S H K = okR X by rw [WM0.out, WB.out, hg, ← hX]; rfl)
      rw [← hX] at HXR
      have HG := Lib.hid hg; clear hg hX hz
      go_enter Try.func35, Try.ntmps35
      go_wp2_with fail
      refine (iTotalSalt_any _ _ _ _ _ _ _ _ _ _ S H K (HA.out.new (by repeat (first | with_reducible exact New.refl _ | with_reducible assumption | refine New.drewN ?_ _ | refine New.drew ?_ | refine New.alloc ?_ _ | refine New.setCell ?_ (by first | omega | (simp; omega) | (simp; done)) _ | (refine New.trans ?_ (by assumption))))) (HB.out.new (by repeat (first | with_reducible exact New.refl _ | with_reducible assumption | refine New.drewN ?_ _ | refine New.drew ?_ | refine New.alloc ?_ _ | refine New.setCell ?_ (by first | omega | (simp; omega) | (simp; done)) _ | (refine New.trans ?_ (by assumption))))) (HK.out.new (by repeat (first | with_reducible exact New.refl _ | with_reducible assumption | refine New.drewN ?_ _ | refine New.drew ?_ | refine New.alloc ?_ _ | refine New.setCell ?_ (by first | omega | (simp; omega) | (simp; done)) _ | (refine New.trans ?_ (by assumption)))))).mono ?_
      rintro e w1 ⟨rfl, n1⟩
      rw [TB.out]
      obtain ⟨P, hP⟩ : ∃ P, P = tsM S H K := ⟨_, rfl⟩
      rw [← hP]
      have HP := Lib.hid hP; clear hP
      have b0 : w1.cell? ⟨w.heap.size, 0, none⟩ = some (.slice aa n ca) := n1.cell (by simp [go_sem])
      have b1 : w1.cell? ⟨w.heap.size, 1, none⟩ = some (.slice ab m cb) := n1.cell (by simp [go_sem])
      have R1 := Lib.hid ((Pr.fresh (w.alloc (.cells #[.slice aa n ca, .slice ab m cb, .slice ak r ck] 39)) (.int .i64 0) (.int .i64 0) 25).new n1)
      simp only [World.size_alloc] at R1
      have N1 := Lib.hid (show New w w1 from New.trans (by repeat (first | with_reducible exact New.refl _ | with_reducible assumption | refine New.drewN ?_ _ | refine New.drew ?_ | refine New.alloc ?_ _ | refine New.setCell ?_ (by first | omega | (simp; omega) | (simp; done)) _ | (refine New.trans ?_ (by assumption)))) n1); clear n1
      go_upto_region 2 with fail
      obtain ⟨v0, hv0⟩ : ∃ xx : World, xx = w1.alloc (.cells #[.int .i64 P.1, .int .i64 P.2] 25) := ⟨_, rfl⟩
      rw [← hv0]
      obtain ⟨B, hB⟩ : ∃ B, B = w1.heap.size := ⟨_, rfl⟩
      have C0 := Lib.hid (show Pr v0 B (.int .i64 P.1) (.int .i64 P.2) by rw [hv0, hB]; exact Pr.fresh _ _ _ _)
      have R0 := Lib.hid (show Pr v0 (w.heap.size + 1) (.int .i64 0) (.int .i64 0) by rw [hv0]; exact R1.out.alloc _)
      have zr := R1.out.lt
      rw [← hB] at zr ⊢
      have N0 := Lib.hid (show New w v0 by rw [hv0]; exact N1.out.alloc _)
      have b0 : v0.cell? ⟨w.heap.size, 0, none⟩ = some (.slice aa n ca) := by rw [hv0]; exact World.cell_kept b0
      have b1 : v0.cell? ⟨w.heap.size, 1, none⟩ = some (.slice ab m cb) := by rw [hv0]; exact World.cell_kept b1
      clear hv0 hB R1 N1
      go_wp2_with fail
      refine (iSumHeld_any _ _ _ _ _ _ _ S H (HA.out.new N0.out) (HB.out.new N0.out)).mono ?_
      rintro e w2 ⟨rfl, n2⟩
      rw [SM.out]
      have C2 := Lib.hid (C0.out.new n2)
      have R2 := Lib.hid (R0.out.new n2)
      have N2 := Lib.hid (N0.out.trans n2); clear n2 N0 C0 R0 b0 b1
      obtain ⟨r0, r1, y0, y1⟩ := R2.out
      obtain ⟨c0, c1, f0, f1⟩ := C2.out
      rw [← HP.out] at Q1 Q2 Q3 Q4 HXR
      obtain ⟨P1, P2⟩ := P
      simp only at c0 c1
      have p1 := Q1.out; have p2 := Q2.out; have p3 := Q3.out; have p4 := Q4.out
      simp only at p1 p2 p3 p4
      go_wp2_with fail
      refine (sharedOut_any _ P1 P2 h (by omega) (by omega) (by omega) (by omega)).mono ?_
      rintro e w3 ⟨rfl, n3⟩
      rw [show red P1 (P2 * h) = X from HXR.out.symm, ← HG.out]
      have R3 := Lib.hid (R2.out.new n3)
      have N3 := Lib.hid (N2.out.trans n3); clear n3 r0 r1 y0 y1 c0 c1 f0 f1
      obtain ⟨r0, r1, y0, y1⟩ := R3.out
      go_wp2
      have k9 := R3.out.put (.int .i64 (okR X).1) (.int .i64 (okR X).2)
      refine bodyPost_ret (v := .tuple #[ratV (okR X), .bool g]) (by simp [results, Try.results35, go_sem, k9.1, k9.2.1]) rfl ⟨by rw [WM.out, WB.out], ?_⟩
      have := N3.out
      (repeat (first | with_reducible exact New.refl _ | with_reducible assumption | refine New.drewN ?_ _ | refine New.drew ?_ | refine New.alloc ?_ _ | refine New.setCell ?_ (by first | omega | (simp; omega) | (simp; done)) _ | (refine New.trans ?_ (by assumption))))
  · have tb := bool_no tb
    have TB := Lib.hid tb
    have WB := Lib.hid (show mxB S H K = false by unfold mxB; rw [tb]; rfl)
    have WM := Lib.hid (mxM_no WB.out)
    have SM := Lib.hid (show sumM S H = ((sumM S H).1, (sumM S H).2) from rfl)
    clear tb
    go_enter Try.func35, Try.ntmps35
    go_wp2_with fail
    refine (iTotalSalt_any _ _ _ _ _ _ _ _ _ _ S H K (HA.out.new (by repeat (first | with_reducible exact New.refl _ | with_reducible assumption | refine New.drewN ?_ _ | refine New.drew ?_ | refine New.alloc ?_ _ | refine New.setCell ?_ (by first | omega | (simp; omega) | (simp; done)) _ | (refine New.trans ?_ (by assumption))))) (HB.out.new (by repeat (first | with_reducible exact New.refl _ | with_reducible assumption | refine New.drewN ?_ _ | refine New.drew ?_ | refine New.alloc ?_ _ | refine New.setCell ?_ (by first | omega | (simp; omega) | (simp; done)) _ | (refine New.trans ?_ (by assumption))))) (HK.out.new (by repeat (first | with_reducible exact New.refl _ | with_reducible assumption | refine New.drewN ?_ _ | refine New.drew ?_ | refine New.alloc ?_ _ | refine New.setCell ?_ (by first | omega | (simp; omega) | (simp; done)) _ | (refine New.trans ?_ (by assumption)))))).mono ?_
    rintro e w1 ⟨rfl, n1⟩
    rw [TB.out]
    obtain ⟨P, hP⟩ : ∃ P, P = tsM S H K := ⟨_, rfl⟩
    rw [← hP]
    have HP := Lib.hid hP; clear hP
    have b0 : w1.cell? ⟨w.heap.size, 0, none⟩ = some (.slice aa n ca) := n1.cell (by simp [go_sem])
    have b1 : w1.cell? ⟨w.heap.size, 1, none⟩ = some (.slice ab m cb) := n1.cell (by simp [go_sem])
    have R1 := Lib.hid ((Pr.fresh (w.alloc (.cells #[.slice aa n ca, .slice ab m cb, .slice ak r ck] 39)) (.int .i64 0) (.int .i64 0) 25).new n1)
    simp only [World.size_alloc] at R1
    have N1 := Lib.hid (show New w w1 from New.trans (by repeat (first | with_reducible exact New.refl _ | with_reducible assumption | refine New.drewN ?_ _ | refine New.drew ?_ | refine New.alloc ?_ _ | refine New.setCell ?_ (by first | omega | (simp; omega) | (simp; done)) _ | (refine New.trans ?_ (by assumption)))) n1); clear n1
    go_upto_region 2 with fail
    obtain ⟨v0, hv0⟩ : ∃ xx : World, xx = w1.alloc (.cells #[.int .i64 P.1, .int .i64 P.2] 25) := ⟨_, rfl⟩
    rw [← hv0]
    obtain ⟨B, hB⟩ : ∃ B, B = w1.heap.size := ⟨_, rfl⟩
    have C0 := Lib.hid (show Pr v0 B (.int .i64 P.1) (.int .i64 P.2) by rw [hv0, hB]; exact Pr.fresh _ _ _ _)
    have R0 := Lib.hid (show Pr v0 (w.heap.size + 1) (.int .i64 0) (.int .i64 0) by rw [hv0]; exact R1.out.alloc _)
    have zr := R1.out.lt
    rw [← hB] at zr ⊢
    have N0 := Lib.hid (show New w v0 by rw [hv0]; exact N1.out.alloc _)
    have b0 : v0.cell? ⟨w.heap.size, 0, none⟩ = some (.slice aa n ca) := by rw [hv0]; exact World.cell_kept b0
    have b1 : v0.cell? ⟨w.heap.size, 1, none⟩ = some (.slice ab m cb) := by rw [hv0]; exact World.cell_kept b1
    clear hv0 hB R1 N1
    go_wp2_with fail
    refine (iSumHeld_any _ _ _ _ _ _ _ S H (HA.out.new N0.out) (HB.out.new N0.out)).mono ?_
    rintro e w2 ⟨rfl, n2⟩
    skip
    have C2 := Lib.hid (C0.out.new n2)
    have R2 := Lib.hid (R0.out.new n2)
    have N2 := Lib.hid (N0.out.trans n2); clear n2 N0 C0 R0 b0 b1
    obtain ⟨r0, r1, y0, y1⟩ := R2.out
    obtain ⟨c0, c1, f0, f1⟩ := C2.out
    go_wp2
    have k9 := R2.out.put (.int .i64 0) (.int .i64 0)
    refine bodyPost_ret (v := .tuple #[ratV (0, 0), .bool false]) (by simp [results, Try.results35, go_sem, k9.1, k9.2.1]) rfl ⟨by rw [WM.out, WB.out], ?_⟩
    have := N2.out
    (repeat (first | with_reducible exact New.refl _ | with_reducible assumption | refine New.drewN ?_ _ | refine New.drew ?_ | refine New.alloc ?_ _ | refine New.setCell ?_ (by first | omega | (simp; omega) | (simp; done)) _ | (refine New.trans ?_ (by assumption))))

theorem veSumN (w : World) (ab : Option Addr) (m cb : Nat) (H : List Int) (h2 : Ints w ab m cb H) (hm : m ≤ 1000) (hv : ∀ j, j < H.length → 0 ≤ H[j]?.getD 0 ∧ H[j]?.getD 0 ≤ 60) :
    Calls Try.prog 60 #[.slice ab m cb] w fun e w' => e = .returned (.int .i64 (sumOf H)) ∧ New w w' :=
  (veSum_any w ab m cb H h2 hm hv).mono fun e w' k => ⟨k.1, by rw [← k.2]; exact New.refl _⟩

set_option maxRecDepth 100000 in
set_option maxHeartbeats 4000000 in
theorem sMixedShare_any (w : World) (aa ab ak : Option Addr) (n m r ca cb ck : Nat) (S H : List Int) (K : List (Int × Int)) (h1 : Ints w aa n ca S) (h2 : Ints w ab m cb H) (h3 : Ratios w ak r ck K) :
    Calls Try.prog 34 #[brV aa n ca ab m cb ak r ck] w fun e w' => e = .returned (.tuple #[ratV (mxM S H K), .bool (mxB S H K)]) ∧ New w w' := by
  have HA := Lib.hid h1; clear h1
  have HB := Lib.hid h2; clear h2
  have HK := Lib.hid h3; clear h3
  by_cases bb : brB S H K = true
  · have HBR := Lib.hid (brB_iff.1 bb)
    have hbs := br_sum HBR.out
    obtain ⟨sv, s0, s3⟩ := hbs
    have SV := Lib.hid sv; clear sv
    have hm5 : m ≤ 1000 := by have := HB.out.len; have := HBR.out.1.2.1; have := HBR.out.1.1; omega
    obtain ⟨h, hh⟩ : ∃ h, h = sumOf H := ⟨_, rfl⟩
    have HH := Lib.hid hh.symm
    rw [← hh] at s0 s3
    have BB := Lib.hid bb
    by_cases hz : h = 0
    · subst hz
      have WB := Lib.hid (show mxB S H K = false by unfold mxB; rw [← hh]; simp)
      have WM := Lib.hid (mxM_no WB.out)
      clear bb hh
      go_enter Try.func34, Try.ntmps34
      go_wp2_with fail
      refine (saBrine_any _ _ _ _ _ _ _ _ _ _ S H K (HA.out.new (by repeat (first | with_reducible exact New.refl _ | with_reducible assumption | refine New.drewN ?_ _ | refine New.drew ?_ | refine New.alloc ?_ _ | refine New.setCell ?_ (by first | omega | (simp; omega) | (simp; done)) _ | (refine New.trans ?_ (by assumption))))) (HB.out.new (by repeat (first | with_reducible exact New.refl _ | with_reducible assumption | refine New.drewN ?_ _ | refine New.drew ?_ | refine New.alloc ?_ _ | refine New.setCell ?_ (by first | omega | (simp; omega) | (simp; done)) _ | (refine New.trans ?_ (by assumption))))) (HK.out.new (by repeat (first | with_reducible exact New.refl _ | with_reducible assumption | refine New.drewN ?_ _ | refine New.drew ?_ | refine New.alloc ?_ _ | refine New.setCell ?_ (by first | omega | (simp; omega) | (simp; done)) _ | (refine New.trans ?_ (by assumption)))))).mono ?_
      rintro e w1 ⟨rfl, n1⟩
      rw [BB.out]
      have b0 : w1.cell? ⟨w.heap.size, 0, none⟩ = some (.slice aa n ca) := n1.cell (by simp [go_sem])
      have b1 : w1.cell? ⟨w.heap.size, 1, none⟩ = some (.slice ab m cb) := n1.cell (by simp [go_sem])
      have b2 : w1.cell? ⟨w.heap.size, 2, none⟩ = some (.slice ak r ck) := n1.cell (by simp [go_sem])
      have R1 := Lib.hid ((Pr.fresh (w.alloc (.cells #[.slice aa n ca, .slice ab m cb, .slice ak r ck] 39)) (.int .i64 0) (.int .i64 0) 25).new n1)
      simp only [World.size_alloc] at R1
      have N1 := Lib.hid (show New w w1 from New.trans (by repeat (first | with_reducible exact New.refl _ | with_reducible assumption | refine New.drewN ?_ _ | refine New.drew ?_ | refine New.alloc ?_ _ | refine New.setCell ?_ (by first | omega | (simp; omega) | (simp; done)) _ | (refine New.trans ?_ (by assumption)))) n1); clear n1
      go_wp2_with fail
      refine (veSumN _ _ _ _ H (HB.out.new N1.out) hm5 SV.out).mono ?_
      rintro e w2 ⟨rfl, n2⟩
      rw [HH.out]
      replace b0 := n2.cell b0
      replace b1 := n2.cell b1
      replace b2 := n2.cell b2
      have R2 := Lib.hid (R1.out.new n2)
      have N2 := Lib.hid (N1.out.trans n2); clear n2 R1 N1
      obtain ⟨r0, r1, y0, y1⟩ := R2.out
      go_wp2
      have k9 := R2.out.put (.int .i64 0) (.int .i64 0)
      refine bodyPost_ret (v := .tuple #[ratV (0, 0), .bool false]) (by simp [results, Try.results34, go_sem, k9.1, k9.2.1]) rfl ⟨by rw [WM.out, WB.out], ?_⟩
      have := N2.out
      (repeat (first | with_reducible exact New.refl _ | with_reducible assumption | refine New.drewN ?_ _ | refine New.drew ?_ | refine New.alloc ?_ _ | refine New.setCell ?_ (by first | omega | (simp; omega) | (simp; done)) _ | (refine New.trans ?_ (by assumption))))
    · have hz' : (h == 0) = false := by simpa using hz
      obtain ⟨oo, ho⟩ : ∃ oo, totR K K.length = oo := ⟨_, rfl⟩
      have TB := tsB_of (S := S) (H := H) bb ho
      have TM := tsM_of (S := S) (H := H) bb ho
      have HO := Lib.hid ho; clear ho
      cases oo with
      | none =>
        have WB := Lib.hid (show mxB S H K = false by unfold mxB; rw [TB]; rfl)
        have WM := Lib.hid (mxM_no WB.out)
        clear bb hh TB TM hz
        go_enter Try.func34, Try.ntmps34
        go_wp2_with fail
        refine (saBrine_any _ _ _ _ _ _ _ _ _ _ S H K (HA.out.new (by repeat (first | with_reducible exact New.refl _ | with_reducible assumption | refine New.drewN ?_ _ | refine New.drew ?_ | refine New.alloc ?_ _ | refine New.setCell ?_ (by first | omega | (simp; omega) | (simp; done)) _ | (refine New.trans ?_ (by assumption))))) (HB.out.new (by repeat (first | with_reducible exact New.refl _ | with_reducible assumption | refine New.drewN ?_ _ | refine New.drew ?_ | refine New.alloc ?_ _ | refine New.setCell ?_ (by first | omega | (simp; omega) | (simp; done)) _ | (refine New.trans ?_ (by assumption))))) (HK.out.new (by repeat (first | with_reducible exact New.refl _ | with_reducible assumption | refine New.drewN ?_ _ | refine New.drew ?_ | refine New.alloc ?_ _ | refine New.setCell ?_ (by first | omega | (simp; omega) | (simp; done)) _ | (refine New.trans ?_ (by assumption)))))).mono ?_
        rintro e w1 ⟨rfl, n1⟩
        rw [BB.out]
        have b0 : w1.cell? ⟨w.heap.size, 0, none⟩ = some (.slice aa n ca) := n1.cell (by simp [go_sem])
        have b1 : w1.cell? ⟨w.heap.size, 1, none⟩ = some (.slice ab m cb) := n1.cell (by simp [go_sem])
        have b2 : w1.cell? ⟨w.heap.size, 2, none⟩ = some (.slice ak r ck) := n1.cell (by simp [go_sem])
        have R1 := Lib.hid ((Pr.fresh (w.alloc (.cells #[.slice aa n ca, .slice ab m cb, .slice ak r ck] 39)) (.int .i64 0) (.int .i64 0) 25).new n1)
        simp only [World.size_alloc] at R1
        have N1 := Lib.hid (show New w w1 from New.trans (by repeat (first | with_reducible exact New.refl _ | with_reducible assumption | refine New.drewN ?_ _ | refine New.drew ?_ | refine New.alloc ?_ _ | refine New.setCell ?_ (by first | omega | (simp; omega) | (simp; done)) _ | (refine New.trans ?_ (by assumption)))) n1); clear n1
        go_wp2_with fail
        refine (veSumN _ _ _ _ H (HB.out.new N1.out) hm5 SV.out).mono ?_
        rintro e w2 ⟨rfl, n2⟩
        rw [HH.out]
        replace b0 := n2.cell b0
        replace b1 := n2.cell b1
        replace b2 := n2.cell b2
        have R2 := Lib.hid (R1.out.new n2)
        have N2 := Lib.hid (N1.out.trans n2); clear n2 R1 N1
        obtain ⟨r0, r1, y0, y1⟩ := R2.out
        go_wp2_with fail
        refine (saTotal_any _ _ _ _ _ _ _ _ _ _ S H K (HA.out.new N2.out) (HB.out.new N2.out) (HK.out.new N2.out) HBR.out).mono ?_
        rintro e w3 ⟨rfl, n3⟩
        rw [HO.out]
        simp only [Option.getD_none, Option.isSome_none]
        have R3 := Lib.hid (R2.out.new n3)
        have N3 := Lib.hid (N2.out.trans n3); clear n3 r0 r1 y0 y1
        have zr := R3.out.lt
        obtain ⟨r0, r1, y0, y1⟩ := R3.out
        go_wp2
        have k9 := (R3.out.put (.int .i64 0) (.int .i64 0)).alloc (.cells #[.int .i64 0, .int .i64 0] 25)
        refine bodyPost_ret (v := .tuple #[ratV (0, 0), .bool false]) (by simp [results, Try.results34, go_sem, k9.1, k9.2.1]) rfl ⟨by rw [WM.out, WB.out], ?_⟩
        have := N3.out
        (repeat (first | with_reducible exact New.refl _ | with_reducible assumption | refine New.drewN ?_ _ | refine New.drew ?_ | refine New.alloc ?_ _ | refine New.setCell ?_ (by first | omega | (simp; omega) | (simp; done)) _ | (refine New.trans ?_ (by assumption))))
      | some P =>
        have hg := totR_good HO.out
        obtain ⟨q1, q2, q3, q4⟩ := mx_bds (h := h) hg (by omega) s3
        clear hg
        obtain ⟨P1, P2⟩ := P
        simp only at q1 q2 q3 q4
        obtain ⟨X, hX⟩ : ∃ X, X = mxR S H K := ⟨_, rfl⟩
        obtain ⟨g, hg⟩ : ∃ g, g = sgR X.1 X.2 := ⟨_, rfl⟩
        have WB := Lib.hid (show mxB S H K = g by unfold mxB; rw [TB, ← hh, decide_eq_true hz, hg, hX]; rfl)
        have WM := Lib.hid (show mxM S H K = if g = true then X else (0, 0) by unfold mxM; rw [WB.out, ← hX])
        have HXR := Lib.hid (show red (P1 * 1) (P2 * h) = X by rw [hX, Int.mul_one]; unfold mxR; rw [TM, hh]; rfl)
        have HG := Lib.hid hg.symm
        clear hg hX TB TM bb hh hz
        obtain ⟨X1, X2⟩ := X
        simp only at HG
        go_enter Try.func34, Try.ntmps34
        go_wp2_with fail
        refine (saBrine_any _ _ _ _ _ _ _ _ _ _ S H K (HA.out.new (by repeat (first | with_reducible exact New.refl _ | with_reducible assumption | refine New.drewN ?_ _ | refine New.drew ?_ | refine New.alloc ?_ _ | refine New.setCell ?_ (by first | omega | (simp; omega) | (simp; done)) _ | (refine New.trans ?_ (by assumption))))) (HB.out.new (by repeat (first | with_reducible exact New.refl _ | with_reducible assumption | refine New.drewN ?_ _ | refine New.drew ?_ | refine New.alloc ?_ _ | refine New.setCell ?_ (by first | omega | (simp; omega) | (simp; done)) _ | (refine New.trans ?_ (by assumption))))) (HK.out.new (by repeat (first | with_reducible exact New.refl _ | with_reducible assumption | refine New.drewN ?_ _ | refine New.drew ?_ | refine New.alloc ?_ _ | refine New.setCell ?_ (by first | omega | (simp; omega) | (simp; done)) _ | (refine New.trans ?_ (by assumption)))))).mono ?_
        rintro e w1 ⟨rfl, n1⟩
        rw [BB.out]
        have b0 : w1.cell? ⟨w.heap.size, 0, none⟩ = some (.slice aa n ca) := n1.cell (by simp [go_sem])
        have b1 : w1.cell? ⟨w.heap.size, 1, none⟩ = some (.slice ab m cb) := n1.cell (by simp [go_sem])
        have b2 : w1.cell? ⟨w.heap.size, 2, none⟩ = some (.slice ak r ck) := n1.cell (by simp [go_sem])
        have R1 := Lib.hid ((Pr.fresh (w.alloc (.cells #[.slice aa n ca, .slice ab m cb, .slice ak r ck] 39)) (.int .i64 0) (.int .i64 0) 25).new n1)
        simp only [World.size_alloc] at R1
        have N1 := Lib.hid (show New w w1 from New.trans (by repeat (first | with_reducible exact New.refl _ | with_reducible assumption | refine New.drewN ?_ _ | refine New.drew ?_ | refine New.alloc ?_ _ | refine New.setCell ?_ (by first | omega | (simp; omega) | (simp; done)) _ | (refine New.trans ?_ (by assumption)))) n1); clear n1
        go_wp2_with fail
        refine (veSumN _ _ _ _ H (HB.out.new N1.out) hm5 SV.out).mono ?_
        rintro e w2 ⟨rfl, n2⟩
        rw [HH.out]
        replace b0 := n2.cell b0
        replace b1 := n2.cell b1
        replace b2 := n2.cell b2
        have R2 := Lib.hid (R1.out.new n2)
        have N2 := Lib.hid (N1.out.trans n2); clear n2 R1 N1
        obtain ⟨r0, r1, y0, y1⟩ := R2.out
        go_wp2_with fail
        refine (saTotal_any _ _ _ _ _ _ _ _ _ _ S H K (HA.out.new N2.out) (HB.out.new N2.out) (HK.out.new N2.out) HBR.out).mono ?_
        rintro e w3 ⟨rfl, n3⟩
        rw [HO.out]
        simp only [Option.getD_some, Option.isSome_some]
        replace b1 := n3.cell b1
        have R3 := Lib.hid (R2.out.new n3)
        have N3 := Lib.hid (N2.out.trans n3); clear n3 r0 r1 y0 y1 b0 b2
        have zr := R3.out.lt
        go_upto_region 6 with fail
        obtain ⟨v0, hv0⟩ : ∃ xx : World, xx = w3.alloc (.cells #[.int .i64 P1, .int .i64 P2] 25) := ⟨_, rfl⟩
        rw [← hv0]
        obtain ⟨B, hB⟩ : ∃ B, B = w3.heap.size := ⟨_, rfl⟩
        have C0 : Pr v0 B (.int .i64 P1) (.int .i64 P2) := by rw [hv0, hB]; exact Pr.fresh _ _ _ _
        have R0 : Pr v0 (w.heap.size + 1) (.int .i64 0) (.int .i64 0) := by rw [hv0]; exact R3.out.alloc _
        have N0 := Lib.hid (show New w v0 by rw [hv0]; exact N3.out.alloc _)
        have b1_v0 : v0.cell? ⟨w.heap.size, 1, none⟩ = some (.slice ab m cb) := by rw [hv0]; exact World.cell_kept b1
        obtain ⟨c0_v0, c1_v0, _, _⟩ := C0
        obtain ⟨r0_v0, r1_v0, zr0_v0, zr1_v0⟩ := R0
        have zB : B < v0.heap.size := World.block_lt_of_cell? _ _ c0_v0
        have zB1 : w.heap.size < v0.heap.size := World.block_lt_of_cell? _ _ b1_v0
        rw [← hB] at zr ⊢
        clear hv0 hB N3 R3 b1
        go_cut [6, 7] (fun p q0 W => CutBox v0 (.int .i64 X1) (.int .i64 X2) p W ∧ q0 = .bool g)
        case first =>
          go_region_held3 (fun w' => w'.cell? ⟨B, 0, none⟩ = some (.int .i64 P1) ∧ w'.cell? ⟨B, 1, none⟩ = some (.int .i64 P2) ∧ w'.cell? ⟨w.heap.size, 1, none⟩ = some (.slice ab m cb))
            (first | with_reducible exact ⟨c0_v0, c1_v0, b1_v0⟩ | with_reducible exact ⟨World.cell_kept c0_v0, World.cell_kept c1_v0, World.cell_kept b1_v0⟩ | with_reducible exact ⟨c0_u1, c1_u1, b1_u1⟩ | with_reducible exact ⟨World.cell_kept c0_u1, World.cell_kept c1_u1, World.cell_kept b1_u1⟩ | with_reducible exact ⟨World.cell_set (World.cell_set c0_u1 (by simp; try omega)) (by simp; try omega), World.cell_set (World.cell_set c1_u1 (by simp; try omega)) (by simp; try omega), World.cell_set (World.cell_set b1_u1 (by simp; try omega)) (by simp; try omega)⟩ | with_reducible exact ⟨c0_u2, c1_u2, b1_u2⟩ | with_reducible exact ⟨World.cell_kept c0_u2, World.cell_kept c1_u2, World.cell_kept b1_u2⟩ | with_reducible exact ⟨World.cell_set (World.cell_set c0_u2 (by simp; try omega)) (by simp; try omega), World.cell_set (World.cell_set c1_u2 (by simp; try omega)) (by simp; try omega), World.cell_set (World.cell_set b1_u2 (by simp; try omega)) (by simp; try omega)⟩ | exact ⟨c0_v0, c1_v0, b1_v0⟩ | exact ⟨World.cell_kept c0_v0, World.cell_kept c1_v0, World.cell_kept b1_v0⟩ | fail)
            (first
              | (go_at_call 60; refine (veSumN _ _ _ _ H (HB.out.new (N0.out.trans (by repeat (first | with_reducible exact New.refl _ | with_reducible assumption | refine New.drewN ?_ _ | refine New.drew ?_ | refine New.alloc ?_ _ | refine New.setCell ?_ (by first | omega | (simp; omega) | (simp; done)) _ | (refine New.trans ?_ (by assumption)))))) hm5 SV.out).mono ?_; rintro e u1 ⟨rfl, n_u1⟩; (try replace n_u1 := New.undrew n_u1); have c0_u1 : u1.cell? ⟨B, 0, none⟩ = some (.int .i64 P1) := n_u1.cell (by first | exact c0_v0 | exact World.cell_kept c0_v0); have c1_u1 : u1.cell? ⟨B, 1, none⟩ = some (.int .i64 P2) := n_u1.cell (by first | exact c1_v0 | exact World.cell_kept c1_v0); have b1_u1 : u1.cell? ⟨w.heap.size, 1, none⟩ = some (.slice ab m cb) := n_u1.cell (by first | exact b1_v0 | exact World.cell_kept b1_v0); have e_u1 := n_u1.size; (try simp only [World.size_alloc] at e_u1); (try (have kk := New.box n_u1; obtain ⟨j0, j1, j2, j3, j4⟩ := kk)); (try (have kk := New.boxed n_u1 j0 j1 j2 j3; clear j0 j1 j2 j3; obtain ⟨j0, j1, j2, j3⟩ := kk)); rw [HH.out]; skip)
              | (go_at_call 61; refine (saTimes_any _ P1 P2 1 h (by omega) (by omega) (by omega) (by omega)).mono ?_; rintro e u2 ⟨rfl, n_u2⟩; (try replace n_u2 := New.undrew n_u2); have c0_u2 : u2.cell? ⟨B, 0, none⟩ = some (.int .i64 P1) := n_u2.cell (by first | exact c0_u1 | exact World.cell_kept c0_u1); have c1_u2 : u2.cell? ⟨B, 1, none⟩ = some (.int .i64 P2) := n_u2.cell (by first | exact c1_u1 | exact World.cell_kept c1_u1); have b1_u2 : u2.cell? ⟨w.heap.size, 1, none⟩ = some (.slice ab m cb) := n_u2.cell (by first | exact b1_u1 | exact World.cell_kept b1_u1); have e_u2 := n_u2.size; (try simp only [World.size_alloc] at e_u2); (try (have kk := New.box n_u2; obtain ⟨j0, j1, j2, j3, j4⟩ := kk)); (try (have kk := New.boxed n_u2 j0 j1 j2 j3; clear j0 j1 j2 j3; obtain ⟨j0, j1, j2, j3⟩ := kk)); rw [HXR.out, HG.out]; skip))
          all_goals (go_wp2_with fail; go_meet)
          all_goals
            have m0 : New v0 u1 := by first | exact n_u1 | exact ((New.refl _).alloc _).trans n_u1
            have y0 := n_u1.size
            (try simp only [World.size_alloc] at y0)
            have q0 := m0.size
            have m1 : New u1 u2 := by first | exact n_u2 | exact ((New.refl _).alloc _).trans n_u2
            have y1 := n_u2.size
            (try simp only [World.size_alloc] at y1)
            have q1 := m1.size
            refine ⟨?_, rfl⟩
            first
              | exact CutBox.behind (m0.trans m1)
              | exact CutBox.put (m0.trans m1) (by omega) (by omega) j0 j1
        case rest =>
          obtain ⟨⟨B3, rfl, hn, hlo, hhi, hc0, hc1⟩, rfl⟩ := hcut
          obtain ⟨u3, rfl⟩ : ∃ u : World, u = wc := ⟨_, rfl⟩
          have c0_u3 : u3.cell? ⟨B, 0, none⟩ = some (.int .i64 P1) := hn.cell c0_v0
          have c1_u3 : u3.cell? ⟨B, 1, none⟩ = some (.int .i64 P2) := hn.cell c1_v0
          have b1_u3 : u3.cell? ⟨w.heap.size, 1, none⟩ = some (.slice ab m cb) := hn.cell b1_v0
          have r0_u3 : u3.cell? ⟨w.heap.size + 1, 0, none⟩ = some (.int .i64 0) := hn.cell r0_v0
          have zr0_u3 : u3.frozen? ⟨w.heap.size + 1, 0, none⟩ = false := hn.frz r0_v0 zr0_v0
          have r1_u3 : u3.cell? ⟨w.heap.size + 1, 1, none⟩ = some (.int .i64 0) := hn.cell r1_v0
          have zr1_u3 : u3.frozen? ⟨w.heap.size + 1, 1, none⟩ = false := hn.frz r1_v0 zr1_v0
          have c3_0_u3 := hc0
          have c3_1_u3 := hc1
          have K_u3 := Lib.hid (show New v0 u3 from hn)
          have z_u3 := hn.size
          clear hc0 hc1 hn
          have zr9 : w.heap.size + 1 < B3 := by have := zB; omega
          have R9 := Lib.hid (show Pr u3 (w.heap.size + 1) (.int .i64 0) (.int .i64 0) from ⟨r0_u3, r1_u3, zr0_u3, zr1_u3⟩)
          have N9 := Lib.hid (N0.out.trans K_u3.out)
          cases g with
          | false =>
            go_wp2
            have k9 := R9.out.put (.int .i64 0) (.int .i64 0)
            refine bodyPost_ret (v := .tuple #[ratV (0, 0), .bool false]) (by simp [results, Try.results34, go_sem, k9.1, k9.2.1]) rfl ⟨by rw [WM.out, WB.out]; rfl, ?_⟩
            have := N9.out
            (repeat (first | with_reducible exact New.refl _ | with_reducible assumption | refine New.drewN ?_ _ | refine New.drew ?_ | refine New.alloc ?_ _ | refine New.setCell ?_ (by first | omega | (simp; omega) | (simp; done)) _ | (refine New.trans ?_ (by assumption))))
          | true =>
            go_wp2
            have k9 := R9.out.put (.int .i64 X1) (.int .i64 X2)
            refine bodyPost_ret (v := .tuple #[ratV (X1, X2), .bool true]) (by simp [results, Try.results34, go_sem, k9.1, k9.2.1]) rfl ⟨by rw [WM.out, WB.out]; rfl, ?_⟩
            have := N9.out
            (repeat (first | with_reducible exact New.refl _ | with_reducible assumption | refine New.drewN ?_ _ | refine New.drew ?_ | refine New.alloc ?_ _ | refine New.setCell ?_ (by first | omega | (simp; omega) | (simp; done)) _ | (refine New.trans ?_ (by assumption))))
  · have bb := bool_no bb
    have BB := Lib.hid bb
    have WB := Lib.hid (show mxB S H K = false by unfold mxB tsB; rw [bb]; rfl)
    have WM := Lib.hid (mxM_no WB.out)
    clear bb
    go_enter Try.func34, Try.ntmps34
    go_wp2_with fail
    refine (saBrine_any _ _ _ _ _ _ _ _ _ _ S H K (HA.out.new (by repeat (first | with_reducible exact New.refl _ | with_reducible assumption | refine New.drewN ?_ _ | refine New.drew ?_ | refine New.alloc ?_ _ | refine New.setCell ?_ (by first | omega | (simp; omega) | (simp; done)) _ | (refine New.trans ?_ (by assumption))))) (HB.out.new (by repeat (first | with_reducible exact New.refl _ | with_reducible assumption | refine New.drewN ?_ _ | refine New.drew ?_ | refine New.alloc ?_ _ | refine New.setCell ?_ (by first | omega | (simp; omega) | (simp; done)) _ | (refine New.trans ?_ (by assumption))))) (HK.out.new (by repeat (first | with_reducible exact New.refl _ | with_reducible assumption | refine New.drewN ?_ _ | refine New.drew ?_ | refine New.alloc ?_ _ | refine New.setCell ?_ (by first | omega | (simp; omega) | (simp; done)) _ | (refine New.trans ?_ (by assumption)))))).mono ?_
    rintro e w1 ⟨rfl, n1⟩
    rw [BB.out]
    have b0 : w1.cell? ⟨w.heap.size, 0, none⟩ = some (.slice aa n ca) := n1.cell (by simp [go_sem])
    have b1 : w1.cell? ⟨w.heap.size, 1, none⟩ = some (.slice ab m cb) := n1.cell (by simp [go_sem])
    have b2 : w1.cell? ⟨w.heap.size, 2, none⟩ = some (.slice ak r ck) := n1.cell (by simp [go_sem])
    have R1 := Lib.hid ((Pr.fresh (w.alloc (.cells #[.slice aa n ca, .slice ab m cb, .slice ak r ck] 39)) (.int .i64 0) (.int .i64 0) 25).new n1)
    simp only [World.size_alloc] at R1
    have N1 := Lib.hid (show New w w1 from New.trans (by repeat (first | with_reducible exact New.refl _ | with_reducible assumption | refine New.drewN ?_ _ | refine New.drew ?_ | refine New.alloc ?_ _ | refine New.setCell ?_ (by first | omega | (simp; omega) | (simp; done)) _ | (refine New.trans ?_ (by assumption)))) n1); clear n1
    obtain ⟨r0, r1, y0, y1⟩ := R1.out
    go_wp2
    have k9 := R1.out.put (.int .i64 0) (.int .i64 0)
    refine bodyPost_ret (v := .tuple #[ratV (0, 0), .bool false]) (by simp [results, Try.results34, go_sem, k9.1, k9.2.1]) rfl ⟨by rw [WM.out, WB.out], ?_⟩
    have := N1.out
    (repeat (first | with_reducible exact New.refl _ | with_reducible assumption | refine New.drewN ?_ _ | refine New.drew ?_ | refine New.alloc ?_ _ | refine New.setCell ?_ (by first | omega | (simp; omega) | (simp; done)) _ | (refine New.trans ?_ (by assumption))))
end Go.Proofs.Ytidklnpohgmnpaa
