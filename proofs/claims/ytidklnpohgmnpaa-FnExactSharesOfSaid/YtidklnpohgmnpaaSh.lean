/- The share of a vessel. -/
import Derived.Test.YtidklnpohgmnpaaBr
namespace Go.Proofs.Ytidklnpohgmnpaa
open Go.RowKit Go.IntWalk

def saltAt (K : List (Int × Int)) (i : Nat) : Int × Int := K[i]?.getD (0, 0)
def heldAt' (H : List Int) (i : Nat) : Int := H[i]?.getD 0
/-- The share of the vessel i, in lowest terms. -/
def shR (H : List Int) (K : List (Int × Int)) (i : Nat) : Int × Int := red (K[i]?.getD (0, 0)).1 ((K[i]?.getD (0, 0)).2 * H[i]?.getD 0)
def shB (S H : List Int) (K : List (Int × Int)) (i : Int) : Bool := brB S H K && inB 0 ((S.length : Int) - 1) i && decide (H[i.toNat]?.getD 0 ≠ 0) && sgR (shR H K i.toNat).1 (shR H K i.toNat).2
def shM (S H : List Int) (K : List (Int × Int)) (i : Int) : Int × Int := if shB S H K i = true then shR H K i.toNat else (0, 0)
theorem shM_no {S H : List Int} {K : List (Int × Int)} {i : Int} (h : shB S H K i = false) : shM S H K i = (0, 0) := by unfold shM; rw [h]; rfl
/-- What is known of a vessel of brine. -/
theorem BrOk.at {S H : List Int} {K : List (Int × Int)} (h : BrOk S H K) {i : Nat} (hi : i < S.length) :
    (0 ≤ H[i]?.getD 0 ∧ H[i]?.getD 0 ≤ 60) ∧ sgR (K[i]?.getD (0, 0)).1 (K[i]?.getD (0, 0)).2 = true ∧ 0 ≤ (K[i]?.getD (0, 0)).1 := by
  have a := h.1.at hi
  have b := h.2.2 i hi
  exact ⟨by omega, b.1, b.2.1⟩
theorem share_bds {a b h : Int} (hg : sgR a b = true) (h0 : 1 ≤ h) (h1 : h ≤ 60) : 1 ≤ b * h ∧ b * h ≤ 60000000000 ∧ -1000000000 ≤ a ∧ a ≤ 1000000000 := by
  obtain ⟨⟨b1, b2⟩, ⟨a1, a2⟩, _⟩ := sgR_iff.1 hg
  have k1 := Int.mul_le_mul_of_nonneg_right b2 (show 0 ≤ h by omega)
  have k2 := Int.mul_le_mul_of_nonneg_right b1 (show 0 ≤ h by omega)
  omega

set_option maxRecDepth 100000 in
set_option maxHeartbeats 2000000 in
theorem saShare_any (w : World) (aa ab ak : Option Addr) (n m r ca cb ck : Nat) (S H : List Int) (K : List (Int × Int)) (i : Nat) (h1 : Ints w aa n ca S) (h2 : Ints w ab m cb H) (h3 : Ratios w ak r ck K) (hb : BrOk S H K) (hi : i < S.length) (hz : H[i]?.getD 0 ≠ 0) :
    Calls Try.prog 52 #[brV aa n ca ab m cb ak r ck, .int .i64 (i : Int)] w fun e w' => e = .returned (.tuple #[ratV (shR H K i), .bool (sgR (shR H K i).1 (shR H K i).2)]) ∧ New w w' := by
  have HA := Lib.hid h1; clear h1
  have HB := Lib.hid h2; clear h2
  have HK := Lib.hid h3; clear h3
  have im : i < m := by have := HB.out.len; have := hb.1.2.1; omega
  have ir : i < r := by have := HK.out.len; have := hb.2.1; omega
  have bm := HB.out.2.2.1; have br := HK.out.2.2.1
  obtain ⟨bh, oh, eh, gh, lh⟩ := HB.out.at im
  obtain ⟨bs, os, es, g0, g1⟩ := HK.out.2.2.2.1 i ir
  have ls := World.block_lt_of_cell? _ _ g0
  simp only at ls
  subst eh
  subst es
  obtain ⟨⟨q1, q2⟩, q3, q4⟩ := hb.at hi
  have HSH := Lib.hid (show shR H K i = red (K[i]?.getD (0, 0)).1 ((K[i]?.getD (0, 0)).2 * H[i]?.getD 0) from rfl)
  obtain ⟨h, hh⟩ : ∃ h, h = H[i]?.getD 0 := ⟨_, rfl⟩
  obtain ⟨p, hp⟩ : ∃ p, p = K[i]?.getD (0, 0) := ⟨_, rfl⟩
  obtain ⟨x, y⟩ := p
  rw [← hh] at gh HSH q1 q2 hz
  rw [← hp] at g0 g1 HSH q3 q4
  simp only at g0 g1 HSH q3 q4
  clear hh hp
  obtain ⟨s1, s2, s3, s4⟩ := share_bds (h := h) q3 (by omega) q2
  have Q3 := Lib.hid q3; clear q3
  obtain ⟨P, hP⟩ : ∃ P, P = shR H K i := ⟨_, rfl⟩
  rw [← hP] at HSH
  have HSR := Lib.hid (show red (x * 1) (y * h) = P by rw [Int.mul_one]; exact HSH.out.symm)
  obtain ⟨g, hg⟩ : ∃ g, g = sgR P.1 P.2 := ⟨_, rfl⟩
  have HP := Lib.hid hP; have HG := Lib.hid hg; clear hP hg HSH
  obtain ⟨P1, P2⟩ := P
  simp only at HG
  clear hb
  go_enter Try.func52, Try.ntmps52
  go_upto_region 1 with fail
  obtain ⟨v0, hv0⟩ : ∃ xx : World, xx = ((w.alloc (.cells #[.slice aa n ca, .slice (some ⟨bh, oh, none⟩) m cb, .slice (some ⟨bs, os, none⟩) r ck] 39)).alloc (.cells #[.int .i64 0, .int .i64 0] 25)) := ⟨_, rfl⟩
  rw [← hv0]
  have M0 : New w v0 := by rw [hv0]; exact (by repeat (first | with_reducible exact New.refl _ | with_reducible assumption | refine New.drewN ?_ _ | refine New.drew ?_ | refine New.alloc ?_ _ | refine New.setCell ?_ (by first | omega | (simp; omega) | (simp; done)) _ | (refine New.trans ?_ (by assumption))))
  have b1_v0 : v0.cell? ⟨w.heap.size, 1, none⟩ = some (.slice (some ⟨bh, oh, none⟩) m cb) := by rw [hv0]; simp [go_sem]
  have b2_v0 : v0.cell? ⟨w.heap.size, 2, none⟩ = some (.slice (some ⟨bs, os, none⟩) r ck) := by rw [hv0]; simp [go_sem]
  have g0_v0 := M0.cell g0
  have g1_v0 := M0.cell g1
  have gh_v0 := M0.cell gh
  have r0_v0 : v0.cell? ⟨w.heap.size + 1, 0, none⟩ = some (.int .i64 0) := by rw [hv0]; simp [go_sem]
  have zr0_v0 : v0.frozen? ⟨w.heap.size + 1, 0, none⟩ = false := by rw [hv0]; simp [go_sem]
  have r1_v0 : v0.cell? ⟨w.heap.size + 1, 1, none⟩ = some (.int .i64 0) := by rw [hv0]; simp [go_sem]
  have zr1_v0 : v0.frozen? ⟨w.heap.size + 1, 1, none⟩ = false := by rw [hv0]; simp [go_sem]
  have N0 := Lib.hid M0
  have zv0 : w.heap.size + 1 < v0.heap.size := by rw [hv0]; simp
  clear hv0 M0 g0 g1 gh
  go_region_held3 (fun w' => w'.cell? ⟨w.heap.size, 1, none⟩ = some (.slice (some ⟨bh, oh, none⟩) m cb) ∧ w'.cell? ⟨w.heap.size, 2, none⟩ = some (.slice (some ⟨bs, os, none⟩) r ck) ∧ w'.cell? ⟨bs, os + i * 2, none⟩ = some (.int .i64 x) ∧ w'.cell? ⟨bs, os + i * 2 + 1, none⟩ = some (.int .i64 y) ∧ w'.cell? ⟨bh, oh + i, none⟩ = some (.int .i64 h))
    (first | with_reducible exact ⟨b1_v0, b2_v0, g0_v0, g1_v0, gh_v0⟩ | with_reducible exact ⟨b1_u1, b2_u1, g0_u1, g1_u1, gh_u1⟩ | with_reducible exact ⟨World.cell_set (World.cell_set (b1_u1) (by simp; try omega)) (by simp; try omega), World.cell_set (World.cell_set (b2_u1) (by simp; try omega)) (by simp; try omega), World.cell_set (World.cell_set (g0_u1) (by simp; try omega)) (by simp; try omega), World.cell_set (World.cell_set (g1_u1) (by simp; try omega)) (by simp; try omega), World.cell_set (World.cell_set (gh_u1) (by simp; try omega)) (by simp; try omega)⟩ | exact ⟨b1_v0, b2_v0, g0_v0, g1_v0, gh_v0⟩ | fail)
    (first
      | (go_at_call 61; refine (saTimes_any _ x y 1 h (by omega) (by omega) (by omega) (by omega)).mono ?_; rintro e u1 ⟨rfl, n_u1⟩; (try replace n_u1 := New.undrew n_u1); have b1_u1 : u1.cell? ⟨w.heap.size, 1, none⟩ = some (.slice (some ⟨bh, oh, none⟩) m cb) := n_u1.cell b1_v0; have b2_u1 : u1.cell? ⟨w.heap.size, 2, none⟩ = some (.slice (some ⟨bs, os, none⟩) r ck) := n_u1.cell b2_v0; have g0_u1 : u1.cell? ⟨bs, os + i * 2, none⟩ = some (.int .i64 x) := n_u1.cell g0_v0; have g1_u1 : u1.cell? ⟨bs, os + i * 2 + 1, none⟩ = some (.int .i64 y) := n_u1.cell g1_v0; have gh_u1 : u1.cell? ⟨bh, oh + i, none⟩ = some (.int .i64 h) := n_u1.cell gh_v0; have r0_u1 : u1.cell? ⟨w.heap.size + 1, 0, none⟩ = some (.int .i64 0) := n_u1.cell r0_v0; have zr0_u1 : u1.frozen? ⟨w.heap.size + 1, 0, none⟩ = false := n_u1.frz r0_v0 zr0_v0; have r1_u1 : u1.cell? ⟨w.heap.size + 1, 1, none⟩ = some (.int .i64 0) := n_u1.cell r1_v0; have zr1_u1 : u1.frozen? ⟨w.heap.size + 1, 1, none⟩ = false := n_u1.frz r1_v0 zr1_v0; rw [HSR.out, ← HG.out]; skip))
  have K_u1 := Lib.hid (show New v0 u1 from n_u1); clear n_u1
  go_wp2
  refine bodyPost_ret (v := .tuple #[ratV (P1, P2), .bool g]) (by simp [results, Try.results52, go_sem, r0_u1, r1_u1]) rfl ⟨by rw [← HP.out, HG.out], ?_⟩
  have := (N0.out.trans K_u1.out)
  (repeat (first | with_reducible exact New.refl _ | with_reducible assumption | refine New.drewN ?_ _ | refine New.drew ?_ | refine New.alloc ?_ _ | refine New.setCell ?_ (by first | omega | (simp; omega) | (simp; done)) _ | (refine New.trans ?_ (by assumption))))

set_option maxRecDepth 100000 in
set_option maxHeartbeats 4000000 in
theorem sShareOf_any (w : World) (aa ab ak : Option Addr) (n m r ca cb ck : Nat) (S H : List Int) (K : List (Int × Int)) (i : Int) (h1 : Ints w aa n ca S) (h2 : Ints w ab m cb H) (h3 : Ratios w ak r ck K) :
    Calls Try.prog 21 #[brV aa n ca ab m cb ak r ck, .int .i64 i] w fun e w' => e = .returned (.tuple #[ratV (shM S H K i), .bool (shB S H K i)]) ∧ New w w' := by
  have HA := Lib.hid h1; clear h1
  have HB := Lib.hid h2; clear h2
  have HK := Lib.hid h3; clear h3
  have LA := Lib.hid HA.out.len
  by_cases gb : brB S H K = true
  · have hb := brB_iff.1 gb
    have GB := Lib.hid gb
    have hn5 : n ≤ 5 := by have := hb.1.1; have := LA.out; omega
    by_cases gi : inB 0 ((S.length : Int) - 1) i = true
    · obtain ⟨ix, rfl⟩ : ∃ j : Nat, i = (j : Int) := ⟨i.toNat, by have := inB_iff.1 gi; omega⟩
      have hi : ix < S.length := by have := inB_iff.1 gi; omega
      have im : ix < m := by have := HB.out.len; have := hb.1.2.1; omega
      have ir : ix < r := by have := HK.out.len; have := hb.2.1; omega
      have bm := HB.out.2.2.1; have br := HK.out.2.2.1
      have GI := Lib.hid (show oneB S H (ix : Int) = true from oneB_iff.2 ⟨hb.1, ix, rfl, hi⟩)
      have WB0 := Lib.hid (show shB S H K (ix : Int) = (decide (H[ix]?.getD 0 ≠ 0) && sgR (shR H K ix).1 (shR H K ix).2) by unfold shB; rw [gb, gi]; rfl)
      have WM0 := Lib.hid (show shM S H K (ix : Int) = if shB S H K (ix : Int) = true then shR H K ix else (0, 0) from rfl)
      clear gi gb
      by_cases hz : H[ix]?.getD 0 = 0
      · have WB := Lib.hid (show shB S H K (ix : Int) = false by rw [WB0.out, hz]; rfl)
        have WM := Lib.hid (shM_no WB.out)
        obtain ⟨bh, oh, eh, gh, lh⟩ := HB.out.at im
        rw [hz] at gh
        subst eh
        clear hb
        go_enter Try.func21, Try.ntmps21
        go_wp2_with fail
        refine (saBrine_any _ _ _ _ _ _ _ _ _ _ S H K (HA.out.new (by repeat (first | with_reducible exact New.refl _ | with_reducible assumption | refine New.drewN ?_ _ | refine New.drew ?_ | refine New.alloc ?_ _ | refine New.setCell ?_ (by first | omega | (simp; omega) | (simp; done)) _ | (refine New.trans ?_ (by assumption))))) (HB.out.new (by repeat (first | with_reducible exact New.refl _ | with_reducible assumption | refine New.drewN ?_ _ | refine New.drew ?_ | refine New.alloc ?_ _ | refine New.setCell ?_ (by first | omega | (simp; omega) | (simp; done)) _ | (refine New.trans ?_ (by assumption))))) (HK.out.new (by repeat (first | with_reducible exact New.refl _ | with_reducible assumption | refine New.drewN ?_ _ | refine New.drew ?_ | refine New.alloc ?_ _ | refine New.setCell ?_ (by first | omega | (simp; omega) | (simp; done)) _ | (refine New.trans ?_ (by assumption)))))).mono ?_
        rintro e w1 ⟨rfl, n1⟩
        rw [GB.out]
        have b0 : w1.cell? ⟨w.heap.size, 0, none⟩ = some (.slice aa n ca) := n1.cell (by simp [go_sem])
        have b1 : w1.cell? ⟨w.heap.size, 1, none⟩ = some (.slice (some ⟨bh, oh, none⟩) m cb) := n1.cell (by simp [go_sem])
        have b2 : w1.cell? ⟨w.heap.size, 2, none⟩ = some (.slice ak r ck) := n1.cell (by simp [go_sem])
        have R1 := Lib.hid ((Pr.fresh (w.alloc (.cells #[.slice aa n ca, .slice (some ⟨bh, oh, none⟩) m cb, .slice ak r ck] 39)) (.int .i64 0) (.int .i64 0) 25).new n1)
        simp only [World.size_alloc] at R1
        have N1 := Lib.hid (show New w w1 from New.trans (by repeat (first | with_reducible exact New.refl _ | with_reducible assumption | refine New.drewN ?_ _ | refine New.drew ?_ | refine New.alloc ?_ _ | refine New.setCell ?_ (by first | omega | (simp; omega) | (simp; done)) _ | (refine New.trans ?_ (by assumption)))) n1); clear n1
        go_wp2_with fail
        refine (veOne_any _ _ _ _ _ _ _ S H _ (HA.out.new N1.out) (HB.out.new N1.out)).mono ?_
        rintro e w2 ⟨rfl, n2⟩
        rw [GI.out]
        replace b0 := n2.cell b0
        replace b1 := n2.cell b1
        replace b2 := n2.cell b2
        have R2 := Lib.hid (R1.out.new n2)
        have N2 := Lib.hid (N1.out.trans n2); clear n2 N1 R1
        replace gh := N2.out.cell gh
        obtain ⟨r0, r1, y0, y1⟩ := R2.out
        go_wp2
        have k9 := R2.out.put (.int .i64 0) (.int .i64 0)
        refine bodyPost_ret (v := .tuple #[ratV (0, 0), .bool false]) (by simp [results, Try.results21, go_sem, k9.1, k9.2.1]) rfl ⟨by rw [WM.out, WB.out], ?_⟩
        have := N2.out
        (repeat (first | with_reducible exact New.refl _ | with_reducible assumption | refine New.drewN ?_ _ | refine New.drew ?_ | refine New.alloc ?_ _ | refine New.setCell ?_ (by first | omega | (simp; omega) | (simp; done)) _ | (refine New.trans ?_ (by assumption))))
      · have HB0 := Lib.hid hb
        have hh0 : (H[ix]?.getD 0 == 0) = false := by simpa using hz
        obtain ⟨bh, oh, eh, gh, lh⟩ := HB.out.at im
        subst eh
        obtain ⟨h, hh⟩ : ∃ h, h = H[ix]?.getD 0 := ⟨_, rfl⟩
        rw [← hh] at gh hh0
        have HH := Lib.hid hh; have HZ := Lib.hid hz; clear hh hz hb
        obtain ⟨g, hg⟩ : ∃ g, g = sgR (shR H K ix).1 (shR H K ix).2 := ⟨_, rfl⟩
        have HG := Lib.hid hg.symm; clear hg
        have WB := Lib.hid (show shB S H K (ix : Int) = g by rw [WB0.out, decide_eq_true HZ.out, HG.out]; rfl)
        go_enter Try.func21, Try.ntmps21
        go_wp2_with fail
        refine (saBrine_any _ _ _ _ _ _ _ _ _ _ S H K (HA.out.new (by repeat (first | with_reducible exact New.refl _ | with_reducible assumption | refine New.drewN ?_ _ | refine New.drew ?_ | refine New.alloc ?_ _ | refine New.setCell ?_ (by first | omega | (simp; omega) | (simp; done)) _ | (refine New.trans ?_ (by assumption))))) (HB.out.new (by repeat (first | with_reducible exact New.refl _ | with_reducible assumption | refine New.drewN ?_ _ | refine New.drew ?_ | refine New.alloc ?_ _ | refine New.setCell ?_ (by first | omega | (simp; omega) | (simp; done)) _ | (refine New.trans ?_ (by assumption))))) (HK.out.new (by repeat (first | with_reducible exact New.refl _ | with_reducible assumption | refine New.drewN ?_ _ | refine New.drew ?_ | refine New.alloc ?_ _ | refine New.setCell ?_ (by first | omega | (simp; omega) | (simp; done)) _ | (refine New.trans ?_ (by assumption)))))).mono ?_
        rintro e w1 ⟨rfl, n1⟩
        rw [GB.out]
        have b0 : w1.cell? ⟨w.heap.size, 0, none⟩ = some (.slice aa n ca) := n1.cell (by simp [go_sem])
        have b1 : w1.cell? ⟨w.heap.size, 1, none⟩ = some (.slice (some ⟨bh, oh, none⟩) m cb) := n1.cell (by simp [go_sem])
        have b2 : w1.cell? ⟨w.heap.size, 2, none⟩ = some (.slice ak r ck) := n1.cell (by simp [go_sem])
        have R1 := Lib.hid ((Pr.fresh (w.alloc (.cells #[.slice aa n ca, .slice (some ⟨bh, oh, none⟩) m cb, .slice ak r ck] 39)) (.int .i64 0) (.int .i64 0) 25).new n1)
        simp only [World.size_alloc] at R1
        have N1 := Lib.hid (show New w w1 from New.trans (by repeat (first | with_reducible exact New.refl _ | with_reducible assumption | refine New.drewN ?_ _ | refine New.drew ?_ | refine New.alloc ?_ _ | refine New.setCell ?_ (by first | omega | (simp; omega) | (simp; done)) _ | (refine New.trans ?_ (by assumption)))) n1); clear n1
        go_wp2_with fail
        refine (veOne_any _ _ _ _ _ _ _ S H _ (HA.out.new N1.out) (HB.out.new N1.out)).mono ?_
        rintro e w2 ⟨rfl, n2⟩
        rw [GI.out]
        replace b0 := n2.cell b0
        replace b1 := n2.cell b1
        replace b2 := n2.cell b2
        have R2 := Lib.hid (R1.out.new n2)
        have N2 := Lib.hid (N1.out.trans n2); clear n2 N1 R1
        replace gh := N2.out.cell gh
        go_wp2_with fail
        refine (saShare_any _ _ _ _ _ _ _ _ _ _ S H K ix (HA.out.new N2.out) (HB.out.new N2.out) (HK.out.new N2.out) HB0.out hi HZ.out).mono ?_
        rintro e w3 ⟨rfl, n3⟩
        rw [HG.out]
        have R3 := Lib.hid (R2.out.new n3)
        have N3 := Lib.hid (N2.out.trans n3); clear n3 gh
        obtain ⟨P, hP⟩ : ∃ P, P = shR H K ix := ⟨_, rfl⟩
        rw [← hP]
        have HP := Lib.hid hP; clear hP
        have zr := R3.out.lt
        have zr2 : w.heap.size < w3.heap.size := by omega
        obtain ⟨r0, r1, y0, y1⟩ := R3.out
        cases g with
        | false =>
          have WM := Lib.hid (shM_no WB.out)
          go_wp2
          have k9 := (R3.out.put (.int .i64 0) (.int .i64 0)).alloc (.cells #[.int .i64 P.1, .int .i64 P.2] 25)
          refine bodyPost_ret (v := .tuple #[ratV (0, 0), .bool false]) (by simp [results, Try.results21, go_sem, k9.1, k9.2.1]) rfl ⟨by rw [WM.out, WB.out], ?_⟩
          have := N3.out
          (repeat (first | with_reducible exact New.refl _ | with_reducible assumption | refine New.drewN ?_ _ | refine New.drew ?_ | refine New.alloc ?_ _ | refine New.setCell ?_ (by first | omega | (simp; omega) | (simp; done)) _ | (refine New.trans ?_ (by assumption))))
        | true =>
          have WM := Lib.hid (show shM S H K (ix : Int) = P by rw [WM0.out, WB.out, if_pos rfl, HP.out])
          go_wp2
          have k9 := (R3.out.put (.int .i64 P.1) (.int .i64 P.2)).alloc (.cells #[.int .i64 P.1, .int .i64 P.2] 25)
          refine bodyPost_ret (v := .tuple #[ratV P, .bool true]) (by simp [results, Try.results21, go_sem, k9.1, k9.2.1]) rfl ⟨by rw [WM.out, WB.out], ?_⟩
          have := N3.out
          (repeat (first | with_reducible exact New.refl _ | with_reducible assumption | refine New.drewN ?_ _ | refine New.drew ?_ | refine New.alloc ?_ _ | refine New.setCell ?_ (by first | omega | (simp; omega) | (simp; done)) _ | (refine New.trans ?_ (by assumption))))
    · have gi := bool_no gi
      have WB := Lib.hid (show shB S H K i = false by unfold shB; rw [gi]; simp)
      have WM := Lib.hid (shM_no WB.out)
      have GI := Lib.hid (show oneB S H i = false by unfold oneB; rw [gi]; simp)
      clear gi gb hb
      go_enter Try.func21, Try.ntmps21
      go_wp2_with fail
      refine (saBrine_any _ _ _ _ _ _ _ _ _ _ S H K (HA.out.new (by repeat (first | with_reducible exact New.refl _ | with_reducible assumption | refine New.drewN ?_ _ | refine New.drew ?_ | refine New.alloc ?_ _ | refine New.setCell ?_ (by first | omega | (simp; omega) | (simp; done)) _ | (refine New.trans ?_ (by assumption))))) (HB.out.new (by repeat (first | with_reducible exact New.refl _ | with_reducible assumption | refine New.drewN ?_ _ | refine New.drew ?_ | refine New.alloc ?_ _ | refine New.setCell ?_ (by first | omega | (simp; omega) | (simp; done)) _ | (refine New.trans ?_ (by assumption))))) (HK.out.new (by repeat (first | with_reducible exact New.refl _ | with_reducible assumption | refine New.drewN ?_ _ | refine New.drew ?_ | refine New.alloc ?_ _ | refine New.setCell ?_ (by first | omega | (simp; omega) | (simp; done)) _ | (refine New.trans ?_ (by assumption)))))).mono ?_
      rintro e w1 ⟨rfl, n1⟩
      rw [GB.out]
      have b0 : w1.cell? ⟨w.heap.size, 0, none⟩ = some (.slice aa n ca) := n1.cell (by simp [go_sem])
      have b1 : w1.cell? ⟨w.heap.size, 1, none⟩ = some (.slice ab m cb) := n1.cell (by simp [go_sem])
      have b2 : w1.cell? ⟨w.heap.size, 2, none⟩ = some (.slice ak r ck) := n1.cell (by simp [go_sem])
      have R1 := Lib.hid ((Pr.fresh (w.alloc (.cells #[.slice aa n ca, .slice ab m cb, .slice ak r ck] 39)) (.int .i64 0) (.int .i64 0) 25).new n1)
      simp only [World.size_alloc] at R1
      have N1 := Lib.hid (show New w w1 from New.trans (by repeat (first | with_reducible exact New.refl _ | with_reducible assumption | refine New.drewN ?_ _ | refine New.drew ?_ | refine New.alloc ?_ _ | refine New.setCell ?_ (by first | omega | (simp; omega) | (simp; done)) _ | (refine New.trans ?_ (by assumption)))) n1); clear n1
      go_wp2_with fail
      refine (veOne_any _ _ _ _ _ _ _ S H _ (HA.out.new N1.out) (HB.out.new N1.out)).mono ?_
      rintro e w2 ⟨rfl, n2⟩
      rw [GI.out]
      replace b0 := n2.cell b0
      replace b1 := n2.cell b1
      replace b2 := n2.cell b2
      have R2 := Lib.hid (R1.out.new n2)
      have N2 := Lib.hid (N1.out.trans n2); clear n2 N1 R1
      obtain ⟨r0, r1, y0, y1⟩ := R2.out
      go_wp2
      have k9 := R2.out.put (.int .i64 0) (.int .i64 0)
      refine bodyPost_ret (v := .tuple #[ratV (0, 0), .bool false]) (by simp [results, Try.results21, go_sem, k9.1, k9.2.1]) rfl ⟨by rw [WM.out, WB.out], ?_⟩
      have := N2.out
      (repeat (first | with_reducible exact New.refl _ | with_reducible assumption | refine New.drewN ?_ _ | refine New.drew ?_ | refine New.alloc ?_ _ | refine New.setCell ?_ (by first | omega | (simp; omega) | (simp; done)) _ | (refine New.trans ?_ (by assumption))))
  · have gb := bool_no gb
    have GB := Lib.hid gb
    have WB := Lib.hid (show shB S H K i = false by unfold shB; rw [gb]; rfl)
    have WM := Lib.hid (shM_no WB.out)
    clear gb
    go_enter Try.func21, Try.ntmps21
    go_wp2_with fail
    refine (saBrine_any _ _ _ _ _ _ _ _ _ _ S H K (HA.out.new (by repeat (first | with_reducible exact New.refl _ | with_reducible assumption | refine New.drewN ?_ _ | refine New.drew ?_ | refine New.alloc ?_ _ | refine New.setCell ?_ (by first | omega | (simp; omega) | (simp; done)) _ | (refine New.trans ?_ (by assumption))))) (HB.out.new (by repeat (first | with_reducible exact New.refl _ | with_reducible assumption | refine New.drewN ?_ _ | refine New.drew ?_ | refine New.alloc ?_ _ | refine New.setCell ?_ (by first | omega | (simp; omega) | (simp; done)) _ | (refine New.trans ?_ (by assumption))))) (HK.out.new (by repeat (first | with_reducible exact New.refl _ | with_reducible assumption | refine New.drewN ?_ _ | refine New.drew ?_ | refine New.alloc ?_ _ | refine New.setCell ?_ (by first | omega | (simp; omega) | (simp; done)) _ | (refine New.trans ?_ (by assumption)))))).mono ?_
    rintro e w1 ⟨rfl, n1⟩
    rw [GB.out]
    have b0 : w1.cell? ⟨w.heap.size, 0, none⟩ = some (.slice aa n ca) := n1.cell (by simp [go_sem])
    have b1 : w1.cell? ⟨w.heap.size, 1, none⟩ = some (.slice ab m cb) := n1.cell (by simp [go_sem])
    have b2 : w1.cell? ⟨w.heap.size, 2, none⟩ = some (.slice ak r ck) := n1.cell (by simp [go_sem])
    have R1 := Lib.hid ((Pr.fresh (w.alloc (.cells #[.slice aa n ca, .slice ab m cb, .slice ak r ck] 39)) (.int .i64 0) (.int .i64 0) 25).new n1)
    simp only [World.size_alloc] at R1
    have N1 := Lib.hid (show New w w1 from New.trans (by repeat (first | with_reducible exact New.refl _ | with_reducible assumption | refine New.drewN ?_ _ | refine New.drew ?_ | refine New.alloc ?_ _ | refine New.setCell ?_ (by first | omega | (simp; omega) | (simp; done)) _ | (refine New.trans ?_ (by assumption)))) n1); clear n1
    obtain ⟨r0, r1, y0, y1⟩ := R1.out
    go_wp2
    have k9 := R1.out.put (.int .i64 0) (.int .i64 0)
    refine bodyPost_ret (v := .tuple #[ratV (0, 0), .bool false]) (by simp [results, Try.results21, go_sem, k9.1, k9.2.1]) rfl ⟨by rw [WM.out, WB.out], ?_⟩
    have := N1.out
    (repeat (first | with_reducible exact New.refl _ | with_reducible assumption | refine New.drewN ?_ _ | refine New.drew ?_ | refine New.alloc ?_ _ | refine New.setCell ?_ (by first | omega | (simp; omega) | (simp; done)) _ | (refine New.trans ?_ (by assumption))))

set_option maxRecDepth 100000 in
set_option maxHeartbeats 4000000 in
theorem iShareOf_any (w : World) (aa ab ak : Option Addr) (n m r ca cb ck : Nat) (S H : List Int) (K : List (Int × Int)) (i : Int) (h1 : Ints w aa n ca S) (h2 : Ints w ab m cb H) (h3 : Ratios w ak r ck K) :
    Calls Try.prog 22 #[brV aa n ca ab m cb ak r ck, .int .i64 i] w fun e w' => e = .returned (.tuple #[ratV (shM S H K i), .bool (shB S H K i)]) ∧ New w w' := by
  have HA := Lib.hid h1; clear h1
  have HB := Lib.hid h2; clear h2
  have HK := Lib.hid h3; clear h3
  have LA := Lib.hid HA.out.len
  by_cases gb : brB S H K = true
  · have hb := brB_iff.1 gb
    have GB := Lib.hid gb
    have hn5 : n ≤ 5 := by have := hb.1.1; have := LA.out; omega
    by_cases gi : inB 0 ((S.length : Int) - 1) i = true
    · obtain ⟨ix, rfl⟩ : ∃ j : Nat, i = (j : Int) := ⟨i.toNat, by have := inB_iff.1 gi; omega⟩
      have hi : ix < S.length := by have := inB_iff.1 gi; omega
      have im : ix < m := by have := HB.out.len; have := hb.1.2.1; omega
      have ir : ix < r := by have := HK.out.len; have := hb.2.1; omega
      have bm := HB.out.2.2.1; have br := HK.out.2.2.1
      have GI := Lib.hid (show inB 0 ((n : Int) - 1) (ix : Int) = true by rw [LA.out]; exact gi)
      have WB0 := Lib.hid (show shB S H K (ix : Int) = (decide (H[ix]?.getD 0 ≠ 0) && sgR (shR H K ix).1 (shR H K ix).2) by unfold shB; rw [gb, gi]; rfl)
      have WM0 := Lib.hid (show shM S H K (ix : Int) = if shB S H K (ix : Int) = true then shR H K ix else (0, 0) from rfl)
      clear gi gb
      by_cases hz : H[ix]?.getD 0 = 0
      · have WB := Lib.hid (show shB S H K (ix : Int) = false by rw [WB0.out, hz]; rfl)
        have WM := Lib.hid (shM_no WB.out)
        obtain ⟨bh, oh, eh, gh, lh⟩ := HB.out.at im
        rw [hz] at gh
        subst eh
        clear hb
        go_enter Try.func22, Try.ntmps22
        go_wp2_with fail
        refine (iIsBrine_any _ _ _ _ _ _ _ _ _ _ S H K (HA.out.new (by repeat (first | with_reducible exact New.refl _ | with_reducible assumption | refine New.drewN ?_ _ | refine New.drew ?_ | refine New.alloc ?_ _ | refine New.setCell ?_ (by first | omega | (simp; omega) | (simp; done)) _ | (refine New.trans ?_ (by assumption))))) (HB.out.new (by repeat (first | with_reducible exact New.refl _ | with_reducible assumption | refine New.drewN ?_ _ | refine New.drew ?_ | refine New.alloc ?_ _ | refine New.setCell ?_ (by first | omega | (simp; omega) | (simp; done)) _ | (refine New.trans ?_ (by assumption))))) (HK.out.new (by repeat (first | with_reducible exact New.refl _ | with_reducible assumption | refine New.drewN ?_ _ | refine New.drew ?_ | refine New.alloc ?_ _ | refine New.setCell ?_ (by first | omega | (simp; omega) | (simp; done)) _ | (refine New.trans ?_ (by assumption)))))).mono ?_
        rintro e w1 ⟨rfl, n1⟩
        rw [GB.out]
        have b0 : w1.cell? ⟨w.heap.size, 0, none⟩ = some (.slice aa n ca) := n1.cell (by simp [go_sem])
        have b1 : w1.cell? ⟨w.heap.size, 1, none⟩ = some (.slice (some ⟨bh, oh, none⟩) m cb) := n1.cell (by simp [go_sem])
        have b2 : w1.cell? ⟨w.heap.size, 2, none⟩ = some (.slice ak r ck) := n1.cell (by simp [go_sem])
        have R1 := Lib.hid ((Pr.fresh (w.alloc (.cells #[.slice aa n ca, .slice (some ⟨bh, oh, none⟩) m cb, .slice ak r ck] 39)) (.int .i64 0) (.int .i64 0) 25).new n1)
        simp only [World.size_alloc] at R1
        have N1 := Lib.hid (show New w w1 from New.trans (by repeat (first | with_reducible exact New.refl _ | with_reducible assumption | refine New.drewN ?_ _ | refine New.drew ?_ | refine New.alloc ?_ _ | refine New.setCell ?_ (by first | omega | (simp; omega) | (simp; done)) _ | (refine New.trans ?_ (by assumption)))) n1); clear n1
        go_wp2_with fail
        refine (isIndex_any _ _ _ n _ _ _ _ hn5).mono ?_
        rintro e w2 ⟨rfl, n2⟩
        rw [GI.out]
        replace b0 := n2.cell b0
        replace b1 := n2.cell b1
        replace b2 := n2.cell b2
        have R2 := Lib.hid (R1.out.new n2)
        have N2 := Lib.hid (N1.out.trans n2); clear n2 N1 R1
        replace gh := N2.out.cell gh
        obtain ⟨r0, r1, y0, y1⟩ := R2.out
        go_wp2
        have k9 := R2.out.put (.int .i64 0) (.int .i64 0)
        refine bodyPost_ret (v := .tuple #[ratV (0, 0), .bool false]) (by simp [results, Try.results22, go_sem, k9.1, k9.2.1]) rfl ⟨by rw [WM.out, WB.out], ?_⟩
        have := N2.out
        (repeat (first | with_reducible exact New.refl _ | with_reducible assumption | refine New.drewN ?_ _ | refine New.drew ?_ | refine New.alloc ?_ _ | refine New.setCell ?_ (by first | omega | (simp; omega) | (simp; done)) _ | (refine New.trans ?_ (by assumption))))
      · have HB0 := Lib.hid hb
        have HZ := Lib.hid hz
        obtain ⟨bh, oh, eh, gh, lh⟩ := HB.out.at im
        obtain ⟨bs, os, es, g0, g1⟩ := HK.out.2.2.2.1 ix ir
        have ls := World.block_lt_of_cell? _ _ g0
        simp only at ls
        subst eh
        subst es
        obtain ⟨⟨q1, q2⟩, q3, q4⟩ := hb.at hi
        have HSH := Lib.hid (show shR H K ix = red (K[ix]?.getD (0, 0)).1 ((K[ix]?.getD (0, 0)).2 * H[ix]?.getD 0) from rfl)
        obtain ⟨h, hh⟩ : ∃ h, h = H[ix]?.getD 0 := ⟨_, rfl⟩
        obtain ⟨p, hp⟩ : ∃ p, p = K[ix]?.getD (0, 0) := ⟨_, rfl⟩
        obtain ⟨x, y⟩ := p
        rw [← hh] at gh HSH q1 q2 hz
        rw [← hp] at g0 g1 HSH q3 q4
        simp only at g0 g1 HSH q3 q4
        clear hh hp
        obtain ⟨s1, s2, s3, s4⟩ := share_bds (h := h) q3 (by omega) q2
        have Q3 := Lib.hid q3; clear q3
        have hh0 : (h == 0) = false := by simpa using hz
        obtain ⟨P, hP⟩ : ∃ P, P = shR H K ix := ⟨_, rfl⟩
        obtain ⟨g, hg⟩ : ∃ g, g = sgR P.1 P.2 := ⟨_, rfl⟩
        rw [← hP] at HSH
        have WB := Lib.hid (show shB S H K (ix : Int) = g by rw [WB0.out, decide_eq_true HZ.out, ← hP, ← hg]; rfl)
        have WM := Lib.hid (show shM S H K (ix : Int) = okR P by rw [WM0.out, WB.out, hg, ← hP]; rfl)
        have HP := Lib.hid hP; have HG := Lib.hid hg; clear hP hg hb hz
        go_enter Try.func22, Try.ntmps22
        go_wp2_with fail
        refine (iIsBrine_any _ _ _ _ _ _ _ _ _ _ S H K (HA.out.new (by repeat (first | with_reducible exact New.refl _ | with_reducible assumption | refine New.drewN ?_ _ | refine New.drew ?_ | refine New.alloc ?_ _ | refine New.setCell ?_ (by first | omega | (simp; omega) | (simp; done)) _ | (refine New.trans ?_ (by assumption))))) (HB.out.new (by repeat (first | with_reducible exact New.refl _ | with_reducible assumption | refine New.drewN ?_ _ | refine New.drew ?_ | refine New.alloc ?_ _ | refine New.setCell ?_ (by first | omega | (simp; omega) | (simp; done)) _ | (refine New.trans ?_ (by assumption))))) (HK.out.new (by repeat (first | with_reducible exact New.refl _ | with_reducible assumption | refine New.drewN ?_ _ | refine New.drew ?_ | refine New.alloc ?_ _ | refine New.setCell ?_ (by first | omega | (simp; omega) | (simp; done)) _ | (refine New.trans ?_ (by assumption)))))).mono ?_
        rintro e w1 ⟨rfl, n1⟩
        rw [GB.out]
        have b0 : w1.cell? ⟨w.heap.size, 0, none⟩ = some (.slice aa n ca) := n1.cell (by simp [go_sem])
        have b1 : w1.cell? ⟨w.heap.size, 1, none⟩ = some (.slice (some ⟨bh, oh, none⟩) m cb) := n1.cell (by simp [go_sem])
        have b2 : w1.cell? ⟨w.heap.size, 2, none⟩ = some (.slice (some ⟨bs, os, none⟩) r ck) := n1.cell (by simp [go_sem])
        have R1 := Lib.hid ((Pr.fresh (w.alloc (.cells #[.slice aa n ca, .slice (some ⟨bh, oh, none⟩) m cb, .slice (some ⟨bs, os, none⟩) r ck] 39)) (.int .i64 0) (.int .i64 0) 25).new n1)
        simp only [World.size_alloc] at R1
        have N1 := Lib.hid (show New w w1 from New.trans (by repeat (first | with_reducible exact New.refl _ | with_reducible assumption | refine New.drewN ?_ _ | refine New.drew ?_ | refine New.alloc ?_ _ | refine New.setCell ?_ (by first | omega | (simp; omega) | (simp; done)) _ | (refine New.trans ?_ (by assumption)))) n1); clear n1
        go_wp2_with fail
        refine (isIndex_any _ _ _ n _ _ _ _ hn5).mono ?_
        rintro e w2 ⟨rfl, n2⟩
        rw [GI.out]
        replace b0 := n2.cell b0
        replace b1 := n2.cell b1
        replace b2 := n2.cell b2
        have R2 := Lib.hid (R1.out.new n2)
        have N2 := Lib.hid (N1.out.trans n2); clear n2 N1 R1
        replace gh := N2.out.cell gh
        replace g0 := N2.out.cell g0
        replace g1 := N2.out.cell g1
        have zz := R2.out.lt
        go_upto_region 3 with fail
        obtain ⟨r0_w2, r1_w2, zr0_w2, zr1_w2⟩ := R2.out
        have b1_w2 := b1
        have b2_w2 := b2
        have g0_w2 := g0
        have g1_w2 := g1
        have gh_w2 := gh
        clear gh g0 g1 b0 b1 b2
        go_region_held3 (fun w' => w'.cell? ⟨w.heap.size, 1, none⟩ = some (.slice (some ⟨bh, oh, none⟩) m cb) ∧ w'.cell? ⟨w.heap.size, 2, none⟩ = some (.slice (some ⟨bs, os, none⟩) r ck) ∧ w'.cell? ⟨bs, os + ix * 2, none⟩ = some (.int .i64 x) ∧ w'.cell? ⟨bs, os + ix * 2 + 1, none⟩ = some (.int .i64 y) ∧ w'.cell? ⟨bh, oh + ix, none⟩ = some (.int .i64 h))
          (first | with_reducible exact ⟨b1_w2, b2_w2, g0_w2, g1_w2, gh_w2⟩ | with_reducible exact ⟨b1_u1, b2_u1, g0_u1, g1_u1, gh_u1⟩ | with_reducible exact ⟨World.cell_set (World.cell_set (b1_u1) (by simp; try omega)) (by simp; try omega), World.cell_set (World.cell_set (b2_u1) (by simp; try omega)) (by simp; try omega), World.cell_set (World.cell_set (g0_u1) (by simp; try omega)) (by simp; try omega), World.cell_set (World.cell_set (g1_u1) (by simp; try omega)) (by simp; try omega), World.cell_set (World.cell_set (gh_u1) (by simp; try omega)) (by simp; try omega)⟩ | exact ⟨b1_w2, b2_w2, g0_w2, g1_w2, gh_w2⟩ | fail)
          (first
            | (go_at_call 54; refine (sharedOut_any _ x y h (by omega) (by omega) (by omega) (by omega)).mono ?_; rintro e u1 ⟨rfl, n_u1⟩; (try replace n_u1 := New.undrew n_u1); have b1_u1 : u1.cell? ⟨w.heap.size, 1, none⟩ = some (.slice (some ⟨bh, oh, none⟩) m cb) := n_u1.cell b1_w2; have b2_u1 : u1.cell? ⟨w.heap.size, 2, none⟩ = some (.slice (some ⟨bs, os, none⟩) r ck) := n_u1.cell b2_w2; have g0_u1 : u1.cell? ⟨bs, os + ix * 2, none⟩ = some (.int .i64 x) := n_u1.cell g0_w2; have g1_u1 : u1.cell? ⟨bs, os + ix * 2 + 1, none⟩ = some (.int .i64 y) := n_u1.cell g1_w2; have gh_u1 : u1.cell? ⟨bh, oh + ix, none⟩ = some (.int .i64 h) := n_u1.cell gh_w2; have r0_u1 : u1.cell? ⟨w.heap.size + 1, 0, none⟩ = some (.int .i64 0) := n_u1.cell r0_w2; have zr0_u1 : u1.frozen? ⟨w.heap.size + 1, 0, none⟩ = false := n_u1.frz r0_w2 zr0_w2; have r1_u1 : u1.cell? ⟨w.heap.size + 1, 1, none⟩ = some (.int .i64 0) := n_u1.cell r1_w2; have zr1_u1 : u1.frozen? ⟨w.heap.size + 1, 1, none⟩ = false := n_u1.frz r1_w2 zr1_w2; rw [← HSH.out, ← HG.out]; skip))
        have K_u1 := Lib.hid (show New w2 u1 from n_u1); clear n_u1
        obtain ⟨Q, hQ⟩ : ∃ Q, Q = okR P := ⟨_, rfl⟩
        go_wp2
        refine bodyPost_ret (v := .tuple #[ratV (okR P), .bool g]) (by simp [results, Try.results22, go_sem, r0_u1, r1_u1]) rfl ⟨by rw [WM.out, WB.out], ?_⟩
        have := N2.out.trans K_u1.out
        (repeat (first | with_reducible exact New.refl _ | with_reducible assumption | refine New.drewN ?_ _ | refine New.drew ?_ | refine New.alloc ?_ _ | refine New.setCell ?_ (by first | omega | (simp; omega) | (simp; done)) _ | (refine New.trans ?_ (by assumption))))
    · have gi := bool_no gi
      have WB := Lib.hid (show shB S H K i = false by unfold shB; rw [gi]; simp)
      have WM := Lib.hid (shM_no WB.out)
      have GI := Lib.hid (show inB 0 ((n : Int) - 1) i = false by rw [LA.out]; exact gi)
      clear gi gb hb
      go_enter Try.func22, Try.ntmps22
      go_wp2_with fail
      refine (iIsBrine_any _ _ _ _ _ _ _ _ _ _ S H K (HA.out.new (by repeat (first | with_reducible exact New.refl _ | with_reducible assumption | refine New.drewN ?_ _ | refine New.drew ?_ | refine New.alloc ?_ _ | refine New.setCell ?_ (by first | omega | (simp; omega) | (simp; done)) _ | (refine New.trans ?_ (by assumption))))) (HB.out.new (by repeat (first | with_reducible exact New.refl _ | with_reducible assumption | refine New.drewN ?_ _ | refine New.drew ?_ | refine New.alloc ?_ _ | refine New.setCell ?_ (by first | omega | (simp; omega) | (simp; done)) _ | (refine New.trans ?_ (by assumption))))) (HK.out.new (by repeat (first | with_reducible exact New.refl _ | with_reducible assumption | refine New.drewN ?_ _ | refine New.drew ?_ | refine New.alloc ?_ _ | refine New.setCell ?_ (by first | omega | (simp; omega) | (simp; done)) _ | (refine New.trans ?_ (by assumption)))))).mono ?_
      rintro e w1 ⟨rfl, n1⟩
      rw [GB.out]
      have b0 : w1.cell? ⟨w.heap.size, 0, none⟩ = some (.slice aa n ca) := n1.cell (by simp [go_sem])
      have b1 : w1.cell? ⟨w.heap.size, 1, none⟩ = some (.slice ab m cb) := n1.cell (by simp [go_sem])
      have b2 : w1.cell? ⟨w.heap.size, 2, none⟩ = some (.slice ak r ck) := n1.cell (by simp [go_sem])
      have R1 := Lib.hid ((Pr.fresh (w.alloc (.cells #[.slice aa n ca, .slice ab m cb, .slice ak r ck] 39)) (.int .i64 0) (.int .i64 0) 25).new n1)
      simp only [World.size_alloc] at R1
      have N1 := Lib.hid (show New w w1 from New.trans (by repeat (first | with_reducible exact New.refl _ | with_reducible assumption | refine New.drewN ?_ _ | refine New.drew ?_ | refine New.alloc ?_ _ | refine New.setCell ?_ (by first | omega | (simp; omega) | (simp; done)) _ | (refine New.trans ?_ (by assumption)))) n1); clear n1
      go_wp2_with fail
      refine (isIndex_any _ _ _ n _ _ _ _ hn5).mono ?_
      rintro e w2 ⟨rfl, n2⟩
      rw [GI.out]
      replace b0 := n2.cell b0
      replace b1 := n2.cell b1
      replace b2 := n2.cell b2
      have R2 := Lib.hid (R1.out.new n2)
      have N2 := Lib.hid (N1.out.trans n2); clear n2 N1 R1
      obtain ⟨r0, r1, y0, y1⟩ := R2.out
      go_wp2
      have k9 := R2.out.put (.int .i64 0) (.int .i64 0)
      refine bodyPost_ret (v := .tuple #[ratV (0, 0), .bool false]) (by simp [results, Try.results22, go_sem, k9.1, k9.2.1]) rfl ⟨by rw [WM.out, WB.out], ?_⟩
      have := N2.out
      (repeat (first | with_reducible exact New.refl _ | with_reducible assumption | refine New.drewN ?_ _ | refine New.drew ?_ | refine New.alloc ?_ _ | refine New.setCell ?_ (by first | omega | (simp; omega) | (simp; done)) _ | (refine New.trans ?_ (by assumption))))
  · have gb := bool_no gb
    have GB := Lib.hid gb
    have WB := Lib.hid (show shB S H K i = false by unfold shB; rw [gb]; rfl)
    have WM := Lib.hid (shM_no WB.out)
    clear gb
    go_enter Try.func22, Try.ntmps22
    go_wp2_with fail
    refine (iIsBrine_any _ _ _ _ _ _ _ _ _ _ S H K (HA.out.new (by repeat (first | with_reducible exact New.refl _ | with_reducible assumption | refine New.drewN ?_ _ | refine New.drew ?_ | refine New.alloc ?_ _ | refine New.setCell ?_ (by first | omega | (simp; omega) | (simp; done)) _ | (refine New.trans ?_ (by assumption))))) (HB.out.new (by repeat (first | with_reducible exact New.refl _ | with_reducible assumption | refine New.drewN ?_ _ | refine New.drew ?_ | refine New.alloc ?_ _ | refine New.setCell ?_ (by first | omega | (simp; omega) | (simp; done)) _ | (refine New.trans ?_ (by assumption))))) (HK.out.new (by repeat (first | with_reducible exact New.refl _ | with_reducible assumption | refine New.drewN ?_ _ | refine New.drew ?_ | refine New.alloc ?_ _ | refine New.setCell ?_ (by first | omega | (simp; omega) | (simp; done)) _ | (refine New.trans ?_ (by assumption)))))).mono ?_
    rintro e w1 ⟨rfl, n1⟩
    rw [GB.out]
    have b0 : w1.cell? ⟨w.heap.size, 0, none⟩ = some (.slice aa n ca) := n1.cell (by simp [go_sem])
    have b1 : w1.cell? ⟨w.heap.size, 1, none⟩ = some (.slice ab m cb) := n1.cell (by simp [go_sem])
    have b2 : w1.cell? ⟨w.heap.size, 2, none⟩ = some (.slice ak r ck) := n1.cell (by simp [go_sem])
    have R1 := Lib.hid ((Pr.fresh (w.alloc (.cells #[.slice aa n ca, .slice ab m cb, .slice ak r ck] 39)) (.int .i64 0) (.int .i64 0) 25).new n1)
    simp only [World.size_alloc] at R1
    have N1 := Lib.hid (show New w w1 from New.trans (by repeat (first | with_reducible exact New.refl _ | with_reducible assumption | refine New.drewN ?_ _ | refine New.drew ?_ | refine New.alloc ?_ _ | refine New.setCell ?_ (by first | omega | (simp; omega) | (simp; done)) _ | (refine New.trans ?_ (by assumption)))) n1); clear n1
    obtain ⟨r0, r1, y0, y1⟩ := R1.out
    go_wp2
    have k9 := R1.out.put (.int .i64 0) (.int .i64 0)
    refine bodyPost_ret (v := .tuple #[ratV (0, 0), .bool false]) (by simp [results, Try.results22, go_sem, k9.1, k9.2.1]) rfl ⟨by rw [WM.out, WB.out], ?_⟩
    have := N1.out
    (repeat (first | with_reducible exact New.refl _ | with_reducible assumption | refine New.drewN ?_ _ | refine New.drew ?_ | refine New.alloc ?_ _ | refine New.setCell ?_ (by first | omega | (simp; omega) | (simp; done)) _ | (refine New.trans ?_ (by assumption))))
end Go.Proofs.Ytidklnpohgmnpaa
