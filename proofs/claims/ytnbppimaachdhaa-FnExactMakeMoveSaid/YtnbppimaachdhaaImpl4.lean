/- The program's functions of chapter 1 that answer with numbers. -/
import Derived.Test.YtnbppimaachdhaaImpl3
namespace Go.Proofs.Ytnbppimaachdhaa
open Go.RowKit

theorem iSumHeld_any (w : World) (aa ab : Option Addr) (n m ca cb : Nat) (S H : List Int) (h1 : Ints w aa n ca S) (h2 : Ints w ab m cb H) :
    Calls Try.prog 15 #[.agg #[.slice aa n ca, .slice ab m cb]] w fun e w' => e = .returned (.tuple #[.int .i64 (sumM S H).1, .bool (sumM S H).2]) ∧ New w w' := by
  have HA := Lib.hid h1; clear h1
  have HB := Lib.hid h2; clear h2
  by_cases hg : goodB S H = true
  · have hG := goodB_iff.1 hg
    have hv : ∀ j, j < H.length → 0 ≤ H[j]?.getD 0 ∧ H[j]?.getD 0 ≤ 60 := fun j hj => by have := hG.at (j := j) (by have := hG.2.1; omega); omega
    have hm5 : m ≤ 5 := by have := HB.out.len; have := hG.1; have := hG.2.1; omega
    have HV := Lib.hid hv; clear hv
    have HG := Lib.hid hG; clear hG
    go_enter Try.func15, Try.ntmps15
    go_wp2_with fail
    refine (iAreVessels_any _ _ _ _ _ _ _ _ _ (HA.out.new (by repeat (first | with_reducible exact New.refl _ | with_reducible assumption | refine New.drewN ?_ _ | refine New.drew ?_ | refine New.alloc ?_ _ | refine New.setCell ?_ (by first | omega | (simp; omega) | (simp; done)) _ | (refine New.trans ?_ (by assumption))))) (HB.out.new (by repeat (first | with_reducible exact New.refl _ | with_reducible assumption | refine New.drewN ?_ _ | refine New.drew ?_ | refine New.alloc ?_ _ | refine New.setCell ?_ (by first | omega | (simp; omega) | (simp; done)) _ | (refine New.trans ?_ (by assumption)))))).mono ?_
    rintro e w1 ⟨rfl, n1⟩
    obtain ⟨hc, hf, hz⟩ := bcell n1
    have nw : New w w1 := New.trans (by repeat (first | with_reducible exact New.refl _ | with_reducible assumption | refine New.drewN ?_ _ | refine New.drew ?_ | refine New.alloc ?_ _ | refine New.setCell ?_ (by first | omega | (simp; omega) | (simp; done)) _ | (refine New.trans ?_ (by assumption)))) n1
    have N1 := Lib.hid nw; clear n1 nw
    go_wp2_with fail
    have HB1 := Lib.hid (HB.out.new N1.out)
    clear hc hf hz
    have HG2 := Lib.hid hg; clear hg
    go_loop [4, 13] (fun s i => ∃ k : Nat, k ≤ m ∧ i = .int .i64 k ∧ s = .int .i64 (sumOf (H.take k))) (fun _ i => m - (intOf i).toNat)
    case atStart => exact ⟨0, Nat.zero_le _, rfl, rfl⟩
    case round =>
      obtain ⟨k, hk, rfl, rfl⟩ := hrel
      have hlen := HB.out.len
      obtain ⟨s0, s1⟩ := sumOf_le H HV.out k (by omega)
      by_cases hlt : k < m
      · obtain ⟨b, o, rfl, hc, _⟩ := HB1.out.at hlt
        obtain ⟨v0, v1⟩ := HV.out k (by omega)
        have HS := Lib.hid (sumOf_snoc H k (by omega))
        have HLEN := Lib.hid hlen; clear hlen
        go_wp2
        go_round
        case rel => exact ⟨k + 1, by omega, by go_num, by rw [HS.out]⟩
        case measure => simp [intOf]; omega
      · have e : H.take k = H := List.take_of_length_le (by omega)
        rw [e]
        have HLEN := Lib.hid hlen; clear hlen
        have HE := Lib.hid e; clear e
        go_wp2
        go_ret2
        exact ⟨ret_pair (by simp [sumM, HG2.out]), N1.out⟩
  · have hg' : goodB S H = false := by simpa using hg
    go_enter Try.func15, Try.ntmps15
    go_wp2_with fail
    refine (iAreVessels_any _ _ _ _ _ _ _ _ _ (HA.out.new (by repeat (first | with_reducible exact New.refl _ | with_reducible assumption | refine New.drewN ?_ _ | refine New.drew ?_ | refine New.alloc ?_ _ | refine New.setCell ?_ (by first | omega | (simp; omega) | (simp; done)) _ | (refine New.trans ?_ (by assumption))))) (HB.out.new (by repeat (first | with_reducible exact New.refl _ | with_reducible assumption | refine New.drewN ?_ _ | refine New.drew ?_ | refine New.alloc ?_ _ | refine New.setCell ?_ (by first | omega | (simp; omega) | (simp; done)) _ | (refine New.trans ?_ (by assumption)))))).mono ?_
    rintro e w1 ⟨rfl, n1⟩
    go_wp2
    go_ret2
    exact ⟨ret_pair (by simp [sumM, hg']), New.trans (by repeat (first | with_reducible exact New.refl _ | with_reducible assumption | refine New.drewN ?_ _ | refine New.drew ?_ | refine New.alloc ?_ _ | refine New.setCell ?_ (by first | omega | (simp; omega) | (simp; done)) _ | (refine New.trans ?_ (by assumption)))) n1⟩

theorem iRoomIn_any (w : World) (aa ab : Option Addr) (n m ca cb : Nat) (S H : List Int) (i : Int) (h1 : Ints w aa n ca S) (h2 : Ints w ab m cb H) :
    Calls Try.prog 17 #[.agg #[.slice aa n ca, .slice ab m cb], .int .i64 i] w fun e w' => e = .returned (.tuple #[.int .i64 (roomM S H i).1, .bool (roomM S H i).2]) ∧ New w w' := by
  have HA := Lib.hid h1; clear h1
  have HB := Lib.hid h2; clear h2
  by_cases hg : goodB S H = true
  · have hG := goodB_iff.1 hg
    have hn := HA.out.len
    have hm := HB.out.len
    have q3 : n ≤ 5 := by have := hG.1; omega
    have q4 : m ≤ 5 := by have := hG.1; have := hG.2.1; omega
    by_cases hi : inB 0 ((n : Int) - 1) i = true
    · obtain ⟨i0, i1⟩ := inB_iff.1 hi
      obtain ⟨k, rfl⟩ := Int.eq_ofNat_of_zero_le i0
      have q1 : k < n := by omega
      have q2 : k < m := by have := hG.2.1; omega
      obtain ⟨v0, v1, v2, v3⟩ := hG.at (j := k) (by omega)
      obtain ⟨ba, oa, rfl, ga, la⟩ := HA.out.at q1
      obtain ⟨bb, ob, rfl, gb, lb⟩ := HB.out.at q2
      have HO := Lib.hid (show oneB S H (k : Int) = true by unfold oneB; rw [hg, ← hn, hi]; rfl)
      have HN := Lib.hid (And.intro hn hm); clear hn hm hG i0 i1
      go_enter Try.func17, Try.ntmps17
      go_wp2_with fail
      refine (iAreVessels_any _ _ _ _ _ _ _ _ _ (HA.out.new (by repeat (first | with_reducible exact New.refl _ | with_reducible assumption | refine New.drewN ?_ _ | refine New.drew ?_ | refine New.alloc ?_ _ | refine New.setCell ?_ (by first | omega | (simp; omega) | (simp; done)) _ | (refine New.trans ?_ (by assumption))))) (HB.out.new (by repeat (first | with_reducible exact New.refl _ | with_reducible assumption | refine New.drewN ?_ _ | refine New.drew ?_ | refine New.alloc ?_ _ | refine New.setCell ?_ (by first | omega | (simp; omega) | (simp; done)) _ | (refine New.trans ?_ (by assumption)))))).mono ?_
      rintro e w1 ⟨rfl, n1⟩
      have a0 : w1.cell? ⟨w.heap.size, 0, none⟩ = some (.slice (some ⟨ba, oa, none⟩) n ca) := n1.cell (by simp)
      have a1 : w1.cell? ⟨w.heap.size, 1, none⟩ = some (.slice (some ⟨bb, ob, none⟩) m cb) := n1.cell (by simp)
      have nw : New w w1 := New.trans (by repeat (first | with_reducible exact New.refl _ | with_reducible assumption | refine New.drewN ?_ _ | refine New.drew ?_ | refine New.alloc ?_ _ | refine New.setCell ?_ (by first | omega | (simp; omega) | (simp; done)) _ | (refine New.trans ?_ (by assumption)))) n1
      have N1 := Lib.hid nw; clear n1 nw
      go_wp2_with fail
      refine (isIndex_any _ _ _ _ _ _ _ _ q3).mono ?_
      rintro e w2 ⟨rfl, n2⟩
      have a0' := n2.cell a0
      have a1' := n2.cell a1
      have ga2 := n2.cell (N1.out.cell ga)
      have gb2 := n2.cell (N1.out.cell gb)
      have N2 := Lib.hid (N1.out.trans n2); clear n2 a0 a1 ga gb
      go_wp2
      go_quiet (fail)
      go_wp2
      go_ret2
      exact ⟨ret_pair (by simp [roomM, HO.out]), New.drewN N2.out _⟩
    · have hi' : inB 0 ((n : Int) - 1) i = false := by simpa using hi
      have HO := Lib.hid (show oneB S H i = false by unfold oneB; rw [hg, ← hn, hi']; rfl)
      have HN := Lib.hid (And.intro hn hm); clear hn hm hG
      go_enter Try.func17, Try.ntmps17
      go_wp2_with fail
      refine (iAreVessels_any _ _ _ _ _ _ _ _ _ (HA.out.new (by repeat (first | with_reducible exact New.refl _ | with_reducible assumption | refine New.drewN ?_ _ | refine New.drew ?_ | refine New.alloc ?_ _ | refine New.setCell ?_ (by first | omega | (simp; omega) | (simp; done)) _ | (refine New.trans ?_ (by assumption))))) (HB.out.new (by repeat (first | with_reducible exact New.refl _ | with_reducible assumption | refine New.drewN ?_ _ | refine New.drew ?_ | refine New.alloc ?_ _ | refine New.setCell ?_ (by first | omega | (simp; omega) | (simp; done)) _ | (refine New.trans ?_ (by assumption)))))).mono ?_
      rintro e w1 ⟨rfl, n1⟩
      have a0 : w1.cell? ⟨w.heap.size, 0, none⟩ = some (.slice aa n ca) := n1.cell (by simp)
      have a1 : w1.cell? ⟨w.heap.size, 1, none⟩ = some (.slice ab m cb) := n1.cell (by simp)
      have nw : New w w1 := New.trans (by repeat (first | with_reducible exact New.refl _ | with_reducible assumption | refine New.drewN ?_ _ | refine New.drew ?_ | refine New.alloc ?_ _ | refine New.setCell ?_ (by first | omega | (simp; omega) | (simp; done)) _ | (refine New.trans ?_ (by assumption)))) n1
      have N1 := Lib.hid nw; clear n1 nw
      go_wp2_with fail
      refine (isIndex_any _ _ _ _ _ _ _ _ q3).mono ?_
      rintro e w2 ⟨rfl, n2⟩
      go_wp2
      go_ret2
      exact ⟨ret_pair (by simp [roomM, HO.out]), N1.out.trans n2⟩
  · have hg' : goodB S H = false := by simpa using hg
    have HO := Lib.hid (show oneB S H i = false by unfold oneB; rw [hg']; rfl)
    go_enter Try.func17, Try.ntmps17
    go_wp2_with fail
    refine (iAreVessels_any _ _ _ _ _ _ _ _ _ (HA.out.new (by repeat (first | with_reducible exact New.refl _ | with_reducible assumption | refine New.drewN ?_ _ | refine New.drew ?_ | refine New.alloc ?_ _ | refine New.setCell ?_ (by first | omega | (simp; omega) | (simp; done)) _ | (refine New.trans ?_ (by assumption))))) (HB.out.new (by repeat (first | with_reducible exact New.refl _ | with_reducible assumption | refine New.drewN ?_ _ | refine New.drew ?_ | refine New.alloc ?_ _ | refine New.setCell ?_ (by first | omega | (simp; omega) | (simp; done)) _ | (refine New.trans ?_ (by assumption)))))).mono ?_
    rintro e w1 ⟨rfl, n1⟩
    go_wp2
    go_ret2
    exact ⟨ret_pair (by simp [roomM, HO.out]), New.trans (by repeat (first | with_reducible exact New.refl _ | with_reducible assumption | refine New.drewN ?_ _ | refine New.drew ?_ | refine New.alloc ?_ _ | refine New.setCell ?_ (by first | omega | (simp; omega) | (simp; done)) _ | (refine New.trans ?_ (by assumption)))) n1⟩

theorem iIsMove_any (w : World) (aa ab : Option Addr) (n m ca cb : Nat) (S H : List Int) (f t : Int) (h1 : Ints w aa n ca S) (h2 : Ints w ab m cb H) :
    Calls Try.prog 20 #[.agg #[.slice aa n ca, .slice ab m cb], .agg #[.int .i64 f, .int .i64 t]] w fun e w' => e = .returned (.tuple #[.bool (isMoveM S H f t).1, .bool (isMoveM S H f t).2]) ∧ New w w' := by
  have HA := Lib.hid h1; clear h1
  have HB := Lib.hid h2; clear h2
  by_cases hg : goodB S H = true
  · have hn := HA.out.len
    have q3 : n ≤ 5 := by have := (goodB_iff.1 hg).1; omega
    have HN := Lib.hid hn; clear hn
    go_enter Try.func20, Try.ntmps20
    go_wp2_with fail
    refine (iAreVessels_any _ _ _ _ _ _ _ _ _ (HA.out.new (by repeat (first | with_reducible exact New.refl _ | with_reducible assumption | refine New.drewN ?_ _ | refine New.drew ?_ | refine New.alloc ?_ _ | refine New.setCell ?_ (by first | omega | (simp; omega) | (simp; done)) _ | (refine New.trans ?_ (by assumption))))) (HB.out.new (by repeat (first | with_reducible exact New.refl _ | with_reducible assumption | refine New.drewN ?_ _ | refine New.drew ?_ | refine New.alloc ?_ _ | refine New.setCell ?_ (by first | omega | (simp; omega) | (simp; done)) _ | (refine New.trans ?_ (by assumption)))))).mono ?_
    rintro e w1 ⟨rfl, n1⟩
    have a0 : w1.cell? ⟨w.heap.size, 0, none⟩ = some (.slice aa n ca) := n1.cell (by simp [go_sem])
    have b0 : w1.cell? ⟨w.heap.size + 1, 0, none⟩ = some (.int .i64 f) := n1.cell (by simp [go_sem])
    have b1 : w1.cell? ⟨w.heap.size + 1, 1, none⟩ = some (.int .i64 t) := n1.cell (by simp [go_sem])
    have nw : New w w1 := New.trans (by repeat (first | with_reducible exact New.refl _ | with_reducible assumption | refine New.drewN ?_ _ | refine New.drew ?_ | refine New.alloc ?_ _ | refine New.setCell ?_ (by first | omega | (simp; omega) | (simp; done)) _ | (refine New.trans ?_ (by assumption)))) n1
    have N1 := Lib.hid nw; clear n1 nw
    go_wp2_with fail
    refine (isMoveAmong_any _ _ _ _ q3).mono ?_
    rintro e w2 ⟨rfl, n2⟩
    have N2 := Lib.hid n2; clear n2
    go_wp2
    go_ret2
    exact ⟨ret_bools (by simp [isMoveM, hg, ← HN.out]), N1.out.trans N2.out⟩
  · have hg' : goodB S H = false := by simpa using hg
    go_enter Try.func20, Try.ntmps20
    go_wp2_with fail
    refine (iAreVessels_any _ _ _ _ _ _ _ _ _ (HA.out.new (by repeat (first | with_reducible exact New.refl _ | with_reducible assumption | refine New.drewN ?_ _ | refine New.drew ?_ | refine New.alloc ?_ _ | refine New.setCell ?_ (by first | omega | (simp; omega) | (simp; done)) _ | (refine New.trans ?_ (by assumption))))) (HB.out.new (by repeat (first | with_reducible exact New.refl _ | with_reducible assumption | refine New.drewN ?_ _ | refine New.drew ?_ | refine New.alloc ?_ _ | refine New.setCell ?_ (by first | omega | (simp; omega) | (simp; done)) _ | (refine New.trans ?_ (by assumption)))))).mono ?_
    rintro e w1 ⟨rfl, n1⟩
    go_wp2
    go_ret2
    exact ⟨ret_bools (by simp [isMoveM, hg']), New.trans (by repeat (first | with_reducible exact New.refl _ | with_reducible assumption | refine New.drewN ?_ _ | refine New.drew ?_ | refine New.alloc ?_ _ | refine New.setCell ?_ (by first | omega | (simp; omega) | (simp; done)) _ | (refine New.trans ?_ (by assumption)))) n1⟩
end Go.Proofs.Ytnbppimaachdhaa
