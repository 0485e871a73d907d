/- The model's functions of chapter 1: indices, moves, amounts. -/
import Derived.Test.YtnbppimaachdhaaSpec2
namespace Go.Proofs.Ytnbppimaachdhaa
open Go.RowKit

theorem ret_pair {a b : Int} {c d : Bool} (h : (a, c) = (b, d)) : Ending.returned (.tuple #[.int .i64 a, .bool c]) = .returned (.tuple #[.int .i64 b, .bool d]) := by cases h; rfl
theorem ret_bools {a b : Bool} {c d : Bool} (h : (a, c) = (b, d)) : Ending.returned (.tuple #[.bool a, .bool c]) = .returned (.tuple #[.bool b, .bool d]) := by cases h; rfl

theorem sSumHeld_any (w : World) (aa ab : Option Addr) (n m ca cb : Nat) (S H : List Int) (h1 : Ints w aa n ca S) (h2 : Ints w ab m cb H) :
    Calls Try.prog 14 #[.agg #[.slice aa n ca, .slice ab m cb]] w fun e w' => e = .returned (.tuple #[.int .i64 (sumM S H).1, .bool (sumM S H).2]) ∧ New w w' := by
  have HA := Lib.hid h1; clear h1
  have HB := Lib.hid h2; clear h2
  by_cases hg : goodB S H = true
  · go_enter Try.func14, Try.ntmps14
    go_wp2_with fail
    refine (veGood_any _ _ _ _ _ _ _ _ _ (HA.out.new (by repeat (first | with_reducible exact New.refl _ | with_reducible assumption | refine New.drewN ?_ _ | refine New.drew ?_ | refine New.alloc ?_ _ | refine New.setCell ?_ (by first | omega | (simp; omega) | (simp; done)) _ | (refine New.trans ?_ (by assumption))))) (HB.out.new (by repeat (first | with_reducible exact New.refl _ | with_reducible assumption | refine New.drewN ?_ _ | refine New.drew ?_ | refine New.alloc ?_ _ | refine New.setCell ?_ (by first | omega | (simp; omega) | (simp; done)) _ | (refine New.trans ?_ (by assumption)))))).mono ?_
    rintro e w1 ⟨rfl, n1⟩
    obtain ⟨hc, hf, hz⟩ := bcell n1
    have hG := goodB_iff.1 hg
    have HG := Lib.hid hG; clear hG
    have N1 := Lib.hid n1; clear n1
    go_wp2_with fail
    refine (veSum_any _ _ _ _ H (HB.out.new ?_) ?_ ?_).mono ?_
    · exact New.trans (by repeat (first | with_reducible exact New.refl _ | with_reducible assumption | refine New.drewN ?_ _ | refine New.drew ?_ | refine New.alloc ?_ _ | refine New.setCell ?_ (by first | omega | (simp; omega) | (simp; done)) _ | (refine New.trans ?_ (by assumption)))) N1.out
    · have := HB.out.len; have := HG.out.1; have := HG.out.2.1; omega
    · intro j hj
      have := HG.out.at (j := j) (by have := HG.out.2.1; omega)
      omega
    rintro e w2 ⟨rfl, rfl⟩
    go_wp2
    go_ret2
    exact ⟨ret_pair (by simp [sumM, hg]), New.trans (by repeat (first | with_reducible exact New.refl _ | with_reducible assumption | refine New.drewN ?_ _ | refine New.drew ?_ | refine New.alloc ?_ _ | refine New.setCell ?_ (by first | omega | (simp; omega) | (simp; done)) _ | (refine New.trans ?_ (by assumption)))) N1.out⟩
  · have hg' : goodB S H = false := by simpa using hg
    go_enter Try.func14, Try.ntmps14
    go_wp2_with fail
    refine (veGood_any _ _ _ _ _ _ _ _ _ (HA.out.new (by repeat (first | with_reducible exact New.refl _ | with_reducible assumption | refine New.drewN ?_ _ | refine New.drew ?_ | refine New.alloc ?_ _ | refine New.setCell ?_ (by first | omega | (simp; omega) | (simp; done)) _ | (refine New.trans ?_ (by assumption))))) (HB.out.new (by repeat (first | with_reducible exact New.refl _ | with_reducible assumption | refine New.drewN ?_ _ | refine New.drew ?_ | refine New.alloc ?_ _ | refine New.setCell ?_ (by first | omega | (simp; omega) | (simp; done)) _ | (refine New.trans ?_ (by assumption)))))).mono ?_
    rintro e w1 ⟨rfl, n1⟩
    go_wp2
    go_ret2
    exact ⟨ret_pair (by simp [sumM, hg']), New.trans (by repeat (first | with_reducible exact New.refl _ | with_reducible assumption | refine New.drewN ?_ _ | refine New.drew ?_ | refine New.alloc ?_ _ | refine New.setCell ?_ (by first | omega | (simp; omega) | (simp; done)) _ | (refine New.trans ?_ (by assumption)))) n1⟩

theorem veOne_any (w : World) (aa ab : Option Addr) (n m ca cb : Nat) (S H : List Int) (i : Int) (h1 : Ints w aa n ca S) (h2 : Ints w ab m cb H) :
    Calls Try.prog 32 #[.agg #[.slice aa n ca, .slice ab m cb], .int .i64 i] w fun e w' => e = .returned (.bool (oneB S H i)) ∧ New w w' := by
  have HA := Lib.hid h1; clear h1
  have HB := Lib.hid h2; clear h2
  by_cases hg : goodB S H = true
  · have hG := goodB_iff.1 hg
    have hl := hG.1
    have hn := HA.out.len
    have q1 : 1 ≤ n := by omega
    have q2 : n ≤ 5 := by omega
    have HN := Lib.hid hn; clear hn
    clear hl hG
    go_enter Try.func32, Try.ntmps32
    go_wp2_with fail
    refine (veGood_any _ _ _ _ _ _ _ _ _ (HA.out.new (by repeat (first | with_reducible exact New.refl _ | with_reducible assumption | refine New.drewN ?_ _ | refine New.drew ?_ | refine New.alloc ?_ _ | refine New.setCell ?_ (by first | omega | (simp; omega) | (simp; done)) _ | (refine New.trans ?_ (by assumption))))) (HB.out.new (by repeat (first | with_reducible exact New.refl _ | with_reducible assumption | refine New.drewN ?_ _ | refine New.drew ?_ | refine New.alloc ?_ _ | refine New.setCell ?_ (by first | omega | (simp; omega) | (simp; done)) _ | (refine New.trans ?_ (by assumption)))))).mono ?_
    rintro e w1 ⟨rfl, n1⟩
    obtain ⟨hc, hf, hz⟩ := bcell n1
    have N1 := Lib.hid n1; clear n1
    go_wp2_with fail
    refine (l1In_any _ _ _ _).mono ?_
    rintro e w2 ⟨rfl, rfl⟩
    go_wp2
    go_ret
    exact ⟨ret_bool (by unfold oneB; rw [hg, ← HN.out]; rfl), New.trans (by repeat (first | with_reducible exact New.refl _ | with_reducible assumption | refine New.drewN ?_ _ | refine New.drew ?_ | refine New.alloc ?_ _ | refine New.setCell ?_ (by first | omega | (simp; omega) | (simp; done)) _ | (refine New.trans ?_ (by assumption)))) N1.out⟩
  · have hg' : goodB S H = false := by simpa using hg
    go_enter Try.func32, Try.ntmps32
    go_wp2_with fail
    refine (veGood_any _ _ _ _ _ _ _ _ _ (HA.out.new (by repeat (first | with_reducible exact New.refl _ | with_reducible assumption | refine New.drewN ?_ _ | refine New.drew ?_ | refine New.alloc ?_ _ | refine New.setCell ?_ (by first | omega | (simp; omega) | (simp; done)) _ | (refine New.trans ?_ (by assumption))))) (HB.out.new (by repeat (first | with_reducible exact New.refl _ | with_reducible assumption | refine New.drewN ?_ _ | refine New.drew ?_ | refine New.alloc ?_ _ | refine New.setCell ?_ (by first | omega | (simp; omega) | (simp; done)) _ | (refine New.trans ?_ (by assumption)))))).mono ?_
    rintro e w1 ⟨rfl, n1⟩
    go_wp2
    go_ret
    exact ⟨ret_bool (by unfold oneB; rw [hg']; rfl), New.trans (by repeat (first | with_reducible exact New.refl _ | with_reducible assumption | refine New.drewN ?_ _ | refine New.drew ?_ | refine New.alloc ?_ _ | refine New.setCell ?_ (by first | omega | (simp; omega) | (simp; done)) _ | (refine New.trans ?_ (by assumption)))) n1⟩

theorem sRoomIn_any (w : World) (aa ab : Option Addr) (n m ca cb : Nat) (S H : List Int) (i : Int) (h1 : Ints w aa n ca S) (h2 : Ints w ab m cb H) :
    Calls Try.prog 16 #[.agg #[.slice aa n ca, .slice ab m cb], .int .i64 i] w fun e w' => e = .returned (.tuple #[.int .i64 (roomM S H i).1, .bool (roomM S H i).2]) ∧ New w w' := by
  have HA := Lib.hid h1; clear h1
  have HB := Lib.hid h2; clear h2
  by_cases hg : oneB S H i = true
  · obtain ⟨hG, k, rfl, hk⟩ := oneB_iff.1 hg
    have hn := HA.out.len
    have hm := HB.out.len
    have hl := hG.1
    have hl2 := hG.2.1
    have q1 : k < n := by omega
    have q2 : k < m := by omega
    have q3 : n ≤ 5 := by omega
    have q4 : m ≤ 5 := by omega
    obtain ⟨v0, v1, v2, v3⟩ := hG.at (j := k) (by omega)
    obtain ⟨ba, oa, rfl, ga, la⟩ := HA.out.at q1
    obtain ⟨bb, ob, rfl, gb, lb⟩ := HB.out.at q2
    have HN := Lib.hid (And.intro hn (And.intro hm (And.intro hl (And.intro hl2 hk)))); clear hn hm hl hl2 hG hk
    go_enter Try.func16, Try.ntmps16
    go_wp2_with fail
    refine (veOne_any _ _ _ _ _ _ _ _ _ _ (HA.out.new (by repeat (first | with_reducible exact New.refl _ | with_reducible assumption | refine New.drewN ?_ _ | refine New.drew ?_ | refine New.alloc ?_ _ | refine New.setCell ?_ (by first | omega | (simp; omega) | (simp; done)) _ | (refine New.trans ?_ (by assumption))))) (HB.out.new (by repeat (first | with_reducible exact New.refl _ | with_reducible assumption | refine New.drewN ?_ _ | refine New.drew ?_ | refine New.alloc ?_ _ | refine New.setCell ?_ (by first | omega | (simp; omega) | (simp; done)) _ | (refine New.trans ?_ (by assumption)))))).mono ?_
    rintro e w1 ⟨rfl, n1⟩
    obtain ⟨hc, hf, hz⟩ := bcell n1
    have ga1 := n1.cell (World.cell_kept ga (o := .cells #[.slice (some ⟨ba, oa, none⟩) n ca, .slice (some ⟨bb, ob, none⟩) m cb] 27))
    have gb1 := n1.cell (World.cell_kept gb (o := .cells #[.slice (some ⟨ba, oa, none⟩) n ca, .slice (some ⟨bb, ob, none⟩) m cb] 27))
    have N1 := Lib.hid n1; clear n1
    go_wp2
    go_quiet (fail)
    go_wp2
    go_ret2
    exact ⟨ret_pair (by simp [roomM, hg]), New.drewN (New.trans (by repeat (first | with_reducible exact New.refl _ | with_reducible assumption | refine New.drewN ?_ _ | refine New.drew ?_ | refine New.alloc ?_ _ | refine New.setCell ?_ (by first | omega | (simp; omega) | (simp; done)) _ | (refine New.trans ?_ (by assumption)))) N1.out) _⟩
  · have hg' : oneB S H i = false := by simpa using hg
    go_enter Try.func16, Try.ntmps16
    go_wp2_with fail
    refine (veOne_any _ _ _ _ _ _ _ _ _ _ (HA.out.new (by repeat (first | with_reducible exact New.refl _ | with_reducible assumption | refine New.drewN ?_ _ | refine New.drew ?_ | refine New.alloc ?_ _ | refine New.setCell ?_ (by first | omega | (simp; omega) | (simp; done)) _ | (refine New.trans ?_ (by assumption))))) (HB.out.new (by repeat (first | with_reducible exact New.refl _ | with_reducible assumption | refine New.drewN ?_ _ | refine New.drew ?_ | refine New.alloc ?_ _ | refine New.setCell ?_ (by first | omega | (simp; omega) | (simp; done)) _ | (refine New.trans ?_ (by assumption)))))).mono ?_
    rintro e w1 ⟨rfl, n1⟩
    go_wp2
    go_ret2
    exact ⟨ret_pair (by simp [roomM, hg']), New.trans (by repeat (first | with_reducible exact New.refl _ | with_reducible assumption | refine New.drewN ?_ _ | refine New.drew ?_ | refine New.alloc ?_ _ | refine New.setCell ?_ (by first | omega | (simp; omega) | (simp; done)) _ | (refine New.trans ?_ (by assumption)))) n1⟩

theorem l1Least_any (a b : Int) (w : World) : Calls Try.prog 47 #[.int .i64 a, .int .i64 b] w fun e w' => e = .returned (.int .i64 (min a b)) ∧ w = w' := by
  by_cases h : a < b
  · go_enter Try.func47, Try.ntmps47
    go_wp2
    go_ret
    exact ⟨ret_int (by omega), rfl⟩
  · go_enter Try.func47, Try.ntmps47
    go_wp2
    go_ret
    exact ⟨ret_int (by omega), rfl⟩

theorem moveB_eq (n : Nat) (f t : Int) : moveB n f t = (inB (-1) ((n : Int) - 1) f && inB (-1) ((n : Int) - 1) t && (f != t)) := by
  rw [Bool.eq_iff_iff, moveB_iff]
  simp only [Bool.and_eq_true, inB_iff, bne_iff_ne, MoveOk]
  omega

theorem veMove_any (w : World) (n : Nat) (f t : Int) (hn : n ≤ 5) :
    Calls Try.prog 34 #[.int .i64 n, .agg #[.int .i64 f, .int .i64 t]] w fun e w' => e = .returned (.bool (moveB n f t)) ∧ New w w' := by
  have HE := Lib.hid (moveB_eq n f t)
  by_cases h1 : inB (-1) ((n : Int) - 1) f = true
  · by_cases h2 : inB (-1) ((n : Int) - 1) t = true
    · go_enter Try.func34, Try.ntmps34
      go_wp2_with fail
      refine (l1In_any _ _ _ _).mono ?_
      rintro e w1 ⟨rfl, rfl⟩
      go_wp2_with fail
      refine (l1In_any _ _ _ _).mono ?_
      rintro e w1 ⟨rfl, rfl⟩
      go_wp2
      go_ret
      exact ⟨ret_bool (by rw [HE.out, h1, h2]; rfl), (by repeat (first | with_reducible exact New.refl _ | with_reducible assumption | refine New.drewN ?_ _ | refine New.drew ?_ | refine New.alloc ?_ _ | refine New.setCell ?_ (by first | omega | (simp; omega) | (simp; done)) _ | (refine New.trans ?_ (by assumption))))⟩
    · have h2' : inB (-1) ((n : Int) - 1) t = false := by simpa using h2
      go_enter Try.func34, Try.ntmps34
      go_wp2_with fail
      refine (l1In_any _ _ _ _).mono ?_
      rintro e w1 ⟨rfl, rfl⟩
      go_wp2_with fail
      refine (l1In_any _ _ _ _).mono ?_
      rintro e w1 ⟨rfl, rfl⟩
      go_wp2
      go_ret
      exact ⟨ret_bool (by rw [HE.out, h1, h2']; rfl), (by repeat (first | with_reducible exact New.refl _ | with_reducible assumption | refine New.drewN ?_ _ | refine New.drew ?_ | refine New.alloc ?_ _ | refine New.setCell ?_ (by first | omega | (simp; omega) | (simp; done)) _ | (refine New.trans ?_ (by assumption))))⟩
  · have h1' : inB (-1) ((n : Int) - 1) f = false := by simpa using h1
    go_enter Try.func34, Try.ntmps34
    go_wp2_with fail
    refine (l1In_any _ _ _ _).mono ?_
    rintro e w1 ⟨rfl, rfl⟩
    go_wp2
    go_ret
    exact ⟨ret_bool (by rw [HE.out, h1']; rfl), (by repeat (first | with_reducible exact New.refl _ | with_reducible assumption | refine New.drewN ?_ _ | refine New.drew ?_ | refine New.alloc ?_ _ | refine New.setCell ?_ (by first | omega | (simp; omega) | (simp; done)) _ | (refine New.trans ?_ (by assumption))))⟩

theorem sIsMove_any (w : World) (aa ab : Option Addr) (n m ca cb : Nat) (S H : List Int) (f t : Int) (h1 : Ints w aa n ca S) (h2 : Ints w ab m cb H) :
    Calls Try.prog 18 #[.agg #[.slice aa n ca, .slice ab m cb], .agg #[.int .i64 f, .int .i64 t]] w fun e w' => e = .returned (.tuple #[.bool (isMoveM S H f t).1, .bool (isMoveM S H f t).2]) ∧ New w w' := by
  have HA := Lib.hid h1; clear h1
  have HB := Lib.hid h2; clear h2
  by_cases hg : goodB S H = true
  · have hn := HA.out.len
    have q3 : n ≤ 5 := by have := (goodB_iff.1 hg).1; omega
    have HN := Lib.hid hn; clear hn
    go_enter Try.func18, Try.ntmps18
    go_wp2_with fail
    refine (veGood_any _ _ _ _ _ _ _ _ _ (HA.out.new (by repeat (first | with_reducible exact New.refl _ | with_reducible assumption | refine New.drewN ?_ _ | refine New.drew ?_ | refine New.alloc ?_ _ | refine New.setCell ?_ (by first | omega | (simp; omega) | (simp; done)) _ | (refine New.trans ?_ (by assumption))))) (HB.out.new (by repeat (first | with_reducible exact New.refl _ | with_reducible assumption | refine New.drewN ?_ _ | refine New.drew ?_ | refine New.alloc ?_ _ | refine New.setCell ?_ (by first | omega | (simp; omega) | (simp; done)) _ | (refine New.trans ?_ (by assumption)))))).mono ?_
    rintro e w1 ⟨rfl, n1⟩
    obtain ⟨hc, hf, hz⟩ := bcell n1
    have N1 := Lib.hid n1; clear n1
    go_wp2_with fail
    refine (veMove_any _ _ _ _ q3).mono ?_
    rintro e w2 ⟨rfl, n2⟩
    have N2 := Lib.hid n2; clear n2
    go_wp2
    go_ret2
    exact ⟨ret_bools (by simp [isMoveM, hg, ← HN.out]), New.trans (New.trans (by repeat (first | with_reducible exact New.refl _ | with_reducible assumption | refine New.drewN ?_ _ | refine New.drew ?_ | refine New.alloc ?_ _ | refine New.setCell ?_ (by first | omega | (simp; omega) | (simp; done)) _ | (refine New.trans ?_ (by assumption)))) N1.out) N2.out⟩
  · have hg' : goodB S H = false := by simpa using hg
    go_enter Try.func18, Try.ntmps18
    go_wp2_with fail
    refine (veGood_any _ _ _ _ _ _ _ _ _ (HA.out.new (by repeat (first | with_reducible exact New.refl _ | with_reducible assumption | refine New.drewN ?_ _ | refine New.drew ?_ | refine New.alloc ?_ _ | refine New.setCell ?_ (by first | omega | (simp; omega) | (simp; done)) _ | (refine New.trans ?_ (by assumption))))) (HB.out.new (by repeat (first | with_reducible exact New.refl _ | with_reducible assumption | refine New.drewN ?_ _ | refine New.drew ?_ | refine New.alloc ?_ _ | refine New.setCell ?_ (by first | omega | (simp; omega) | (simp; done)) _ | (refine New.trans ?_ (by assumption)))))).mono ?_
    rintro e w1 ⟨rfl, n1⟩
    go_wp2
    go_ret2
    exact ⟨ret_bools (by simp [isMoveM, hg']), New.trans (by repeat (first | with_reducible exact New.refl _ | with_reducible assumption | refine New.drewN ?_ _ | refine New.drew ?_ | refine New.alloc ?_ _ | refine New.setCell ?_ (by first | omega | (simp; omega) | (simp; done)) _ | (refine New.trans ?_ (by assumption)))) n1⟩

theorem veAsked_any (w : World) (aa ab : Option Addr) (n m ca cb : Nat) (S H : List Int) (f t : Int) (h1 : Ints w aa n ca S) (h2 : Ints w ab m cb H) :
    Calls Try.prog 36 #[.agg #[.slice aa n ca, .slice ab m cb], .agg #[.int .i64 f, .int .i64 t]] w fun e w' => e = .returned (.bool (askedB S H f t)) ∧ New w w' := by
  have HA := Lib.hid h1; clear h1
  have HB := Lib.hid h2; clear h2
  by_cases hg : goodB S H = true
  · have hn := HA.out.len
    have q3 : n ≤ 5 := by have := (goodB_iff.1 hg).1; omega
    have HN := Lib.hid hn; clear hn
    go_enter Try.func36, Try.ntmps36
    go_wp2_with fail
    refine (veGood_any _ _ _ _ _ _ _ _ _ (HA.out.new (by repeat (first | with_reducible exact New.refl _ | with_reducible assumption | refine New.drewN ?_ _ | refine New.drew ?_ | refine New.alloc ?_ _ | refine New.setCell ?_ (by first | omega | (simp; omega) | (simp; done)) _ | (refine New.trans ?_ (by assumption))))) (HB.out.new (by repeat (first | with_reducible exact New.refl _ | with_reducible assumption | refine New.drewN ?_ _ | refine New.drew ?_ | refine New.alloc ?_ _ | refine New.setCell ?_ (by first | omega | (simp; omega) | (simp; done)) _ | (refine New.trans ?_ (by assumption)))))).mono ?_
    rintro e w1 ⟨rfl, n1⟩
    obtain ⟨hc, hf, hz⟩ := bcell n1
    have N1 := Lib.hid n1; clear n1
    go_wp2_with fail
    refine (veMove_any _ _ _ _ q3).mono ?_
    rintro e w2 ⟨rfl, n2⟩
    have N2 := Lib.hid n2; clear n2
    go_wp2
    go_ret
    exact ⟨ret_bool (by unfold askedB; rw [hg, ← HN.out]; rfl), New.trans (New.trans (by repeat (first | with_reducible exact New.refl _ | with_reducible assumption | refine New.drewN ?_ _ | refine New.drew ?_ | refine New.alloc ?_ _ | refine New.setCell ?_ (by first | omega | (simp; omega) | (simp; done)) _ | (refine New.trans ?_ (by assumption)))) N1.out) N2.out⟩
  · have hg' : goodB S H = false := by simpa using hg
    go_enter Try.func36, Try.ntmps36
    go_wp2_with fail
    refine (veGood_any _ _ _ _ _ _ _ _ _ (HA.out.new (by repeat (first | with_reducible exact New.refl _ | with_reducible assumption | refine New.drewN ?_ _ | refine New.drew ?_ | refine New.alloc ?_ _ | refine New.setCell ?_ (by first | omega | (simp; omega) | (simp; done)) _ | (refine New.trans ?_ (by assumption))))) (HB.out.new (by repeat (first | with_reducible exact New.refl _ | with_reducible assumption | refine New.drewN ?_ _ | refine New.drew ?_ | refine New.alloc ?_ _ | refine New.setCell ?_ (by first | omega | (simp; omega) | (simp; done)) _ | (refine New.trans ?_ (by assumption)))))).mono ?_
    rintro e w1 ⟨rfl, n1⟩
    go_wp2
    go_ret
    exact ⟨ret_bool (by unfold askedB; rw [hg']; rfl), New.trans (by repeat (first | with_reducible exact New.refl _ | with_reducible assumption | refine New.drewN ?_ _ | refine New.drew ?_ | refine New.alloc ?_ _ | refine New.setCell ?_ (by first | omega | (simp; omega) | (simp; done)) _ | (refine New.trans ?_ (by assumption)))) n1⟩
end Go.Proofs.Ytnbppimaachdhaa
