/- What tanks are: as a bool, and the model's and the program's tests. -/
import Derived.Test.YtlhpkpfnaepgbaaComI
namespace Go.Proofs.Ytlhpkpfnaepgbaa
open Go.RowKit Go.IntWalk

theorem bool_no {b : Bool} (h : ¬ b = true) : b = false := by simpa using h
def tkB (t : Tk) : Bool := inB 1 50 t.1 && inB 0 100 t.2.1 && inB 0 10000 t.2.2
theorem tkB_iff {t : Tk} : tkB t = true ↔ TkOk t := by
  unfold tkB
  rw [Bool.and_eq_true, Bool.and_eq_true, inB_iff, inB_iff, inB_iff]
  exact ⟨fun h => ⟨h.1.1.1, h.1.1.2, h.1.2.1, h.1.2.2, h.2.1, h.2.2⟩, fun h => ⟨⟨⟨h.a1, h.a2⟩, h.f1, h.f2⟩, h.w1, h.w2⟩⟩
def tksB (T : List Tk) : Bool := inB 1 6 (T.length : Int) && T.all tkB
theorem tksB_iff {T : List Tk} : tksB T = true ↔ TksOk T := by
  unfold tksB
  rw [Bool.and_eq_true, inB_iff, List.all_eq_true]
  exact ⟨fun h => ⟨by omega, by omega, fun t ht => tkB_iff.1 (h.2 t ht)⟩, fun h => ⟨⟨by have := h.l1; omega, by have := h.l6; omega⟩, fun t ht => tkB_iff.2 (h.all t ht)⟩⟩
theorem TksOk.of_get {T : List Tk} (h1 : 1 ≤ T.length) (h6 : T.length ≤ 6) (h : ∀ j, j < T.length → tkB (T[j]?.getD (0, 0, 0)) = true) : TksOk T := by
  refine ⟨h1, h6, fun t ht => ?_⟩
  obtain ⟨j, hj, rfl⟩ := List.getElem_of_mem ht
  have := h j hj
  rw [List.getElem?_eq_getElem hj] at this
  exact tkB_iff.1 this

theorem l1In_any (n lo hi : Int) (w : World) :
    Calls Try.prog 55 #[.int .i64 n, .int .i64 lo, .int .i64 hi] w fun e w' => e = .returned (.bool (inB lo hi n)) ∧ w = w' := by
  by_cases h1 : lo ≤ n
  · go_enter Try.func55, Try.ntmps55
    go_wp2
    go_ret
    exact ⟨ret_bool (by simp [inB, h1]), rfl⟩
  · have h2 : decide (lo ≤ n) = false := by simpa using h1
    go_enter Try.func55, Try.ntmps55
    go_wp2
    go_ret
    exact ⟨ret_bool (by unfold inB; rw [h2]; rfl), rfl⟩

theorem leTank_any (w : World) (a f u : Int) :
    Calls Try.prog 56 #[tkV a f u] w fun e w' => e = .returned (.bool (tkB (a, f, u))) ∧ New w w' := by
  by_cases h1 : inB 1 50 a = true
  · by_cases h2 : inB 0 100 f = true
    · have h3 : inB 0 10000 u = inB 0 10000 u := rfl
      go_enter Try.func56, Try.ntmps56
      go_wp2_with fail
      refine (l1In_any _ _ _ _).mono ?_
      rintro e w9 ⟨rfl, rfl⟩
      rw [h1]
      go_wp2_with fail
      refine (l1In_any _ _ _ _).mono ?_
      rintro e w9 ⟨rfl, rfl⟩
      rw [h2]
      go_wp2_with fail
      refine (l1In_any _ _ _ _).mono ?_
      rintro e w9 ⟨rfl, rfl⟩
      go_wp2
      go_ret
      exact ⟨ret_bool (by unfold tkB; simp only; rw [h1, h2]; rfl), (by repeat (first | with_reducible exact New.refl _ | with_reducible assumption | refine New.drewN ?_ _ | refine New.drew ?_ | refine New.alloc ?_ _ | refine New.setCell ?_ (by first | omega | (simp; omega) | (simp; done)) _ | (refine New.trans ?_ (by assumption))))⟩
    · have h2 := bool_no h2
      go_enter Try.func56, Try.ntmps56
      go_wp2_with fail
      refine (l1In_any _ _ _ _).mono ?_
      rintro e w9 ⟨rfl, rfl⟩
      rw [h1]
      go_wp2_with fail
      refine (l1In_any _ _ _ _).mono ?_
      rintro e w9 ⟨rfl, rfl⟩
      rw [h2]
      go_wp2
      go_ret
      exact ⟨ret_bool (by unfold tkB; simp only; rw [h1, h2]; rfl), (by repeat (first | with_reducible exact New.refl _ | with_reducible assumption | refine New.drewN ?_ _ | refine New.drew ?_ | refine New.alloc ?_ _ | refine New.setCell ?_ (by first | omega | (simp; omega) | (simp; done)) _ | (refine New.trans ?_ (by assumption))))⟩
  · have h1 := bool_no h1
    go_enter Try.func56, Try.ntmps56
    go_wp2_with fail
    refine (l1In_any _ _ _ _).mono ?_
    rintro e w9 ⟨rfl, rfl⟩
    rw [h1]
    go_wp2
    go_ret
    exact ⟨ret_bool (by unfold tkB; simp only; rw [h1]; rfl), (by repeat (first | with_reducible exact New.refl _ | with_reducible assumption | refine New.drewN ?_ _ | refine New.drew ?_ | refine New.alloc ?_ _ | refine New.setCell ?_ (by first | omega | (simp; omega) | (simp; done)) _ | (refine New.trans ?_ (by assumption))))⟩

theorem leTanks_any (w : World) (aa : Option Addr) (n ca : Nat) (T : List Tk) (ha : Tanks w aa n ca T) :
    Calls Try.prog 44 #[.slice aa n ca] w fun e w' => e = .returned (.bool (tksB T)) ∧ New w w' := by
  have HL := Lib.hid ha.1
  have hm := ha.2.2.1
  have HA := Lib.hid ha; clear ha
  by_cases hi : inB 1 6 (n : Int) = true
  · obtain ⟨h1, h6⟩ := inB_iff.1 hi
    go_enter Try.func44, Try.ntmps44
    go_wp2_with fail
    refine (l1In_any _ _ _ _).mono ?_
    rintro e w9 ⟨rfl, rfl⟩
    rw [hi]
    go_wp2
    clear hi
    go_loopw [11] (fun i wr => ∃ k : Nat, k ≤ n ∧ i = .int .i64 k ∧ (∀ j, j < k → tkB (T[j]?.getD (0, 0, 0)) = true) ∧ New w wr) (fun i _ => n - (intOf i).toNat)
    case atStart => exact ⟨0, Nat.zero_le _, rfl, fun j hj => absurd hj (by omega), New.refl _⟩
    case round =>
      obtain ⟨k, hk, rfl, hpre, hnw⟩ := hrel
      have HP := Lib.hid hpre; clear hpre
      have NW := Lib.hid hnw; clear hnw
      by_cases hlt : k < n
      · obtain ⟨bx, ox, rfl, g0, g1, g2⟩ := (HA.out.new NW.out).2.2.2.1 k hlt
        by_cases hb : tkB (T[k]?.getD (0, 0, 0)) = true
        · have HB := Lib.hid (show tkB ((T[k]?.getD (0, 0, 0)).1, (T[k]?.getD (0, 0, 0)).2.1, (T[k]?.getD (0, 0, 0)).2.2) = true from hb)
          go_wp2_with fail
          refine (leTank_any _ _ _ _).mono ?_
          rintro e w2 ⟨he, n2⟩
          rw [HB.out] at he
          subst he
          have N2 := Lib.hid (show New wr w2 from New.trans (by repeat (first | with_reducible exact New.refl _ | with_reducible assumption | refine New.drewN ?_ _ | refine New.drew ?_ | refine New.alloc ?_ _ | refine New.setCell ?_ (by first | omega | (simp; omega) | (simp; done)) _ | (refine New.trans ?_ (by assumption)))) n2); clear n2
          go_wp2
          go_roundw
          case rel =>
            refine ⟨k + 1, by omega, by go_num, fun j hj => ?_, NW.out.trans N2.out⟩
            by_cases e : j = k
            · subst e; exact hb
            · exact HP.out j (by omega)
          case measure => simp [intOf]; omega
        · have HB := Lib.hid (show tkB ((T[k]?.getD (0, 0, 0)).1, (T[k]?.getD (0, 0, 0)).2.1, (T[k]?.getD (0, 0, 0)).2.2) = false from bool_no hb)
          have HF := Lib.hid (show tksB T = false from bool_no fun h => hb (tkB_iff.2 ((tksB_iff.1 h).all _ (mem_get (by have := HL.out; omega)))))
          clear hb
          go_wp2_with fail
          refine (leTank_any _ _ _ _).mono ?_
          rintro e w2 ⟨he, n2⟩
          rw [HB.out] at he
          subst he
          have N2 := Lib.hid (show New wr w2 from New.trans (by repeat (first | with_reducible exact New.refl _ | with_reducible assumption | refine New.drewN ?_ _ | refine New.drew ?_ | refine New.alloc ?_ _ | refine New.setCell ?_ (by first | omega | (simp; omega) | (simp; done)) _ | (refine New.trans ?_ (by assumption)))) n2); clear n2
          go_wp2
          go_ret
          exact ⟨ret_bool HF.out.symm, NW.out.trans N2.out⟩
      · have HF := Lib.hid (show tksB T = true from tksB_iff.2 (TksOk.of_get (by have := HL.out; omega) (by have := HL.out; omega) (fun j hj => HP.out j (by have := HL.out; omega))))
        go_wp2
        go_ret
        exact ⟨ret_bool HF.out.symm, NW.out⟩
  · have hi' : inB 1 6 (n : Int) = false := by simpa using hi
    have hn := inB_false.1 hi'
    have HF := Lib.hid (show tksB T = false from bool_no fun h => hn (by have := (tksB_iff.1 h).l1; have := (tksB_iff.1 h).l6; have := HL.out; omega))
    clear hi
    clear hn
    go_enter Try.func44, Try.ntmps44
    go_wp2_with fail
    refine (l1In_any _ _ _ _).mono ?_
    rintro e w9 ⟨rfl, rfl⟩
    rw [hi']
    go_wp2
    go_ret
    exact ⟨ret_bool HF.out.symm, New.refl _⟩

theorem iIsTank_any (w : World) (a f u : Int) :
    Calls Try.prog 47 #[tkV a f u] w fun e w' => e = .returned (.bool (tkB (a, f, u))) ∧ New w w' := by
  by_cases h0 : 1 ≤ a
  · by_cases h1 : a ≤ 50
    · by_cases h2 : 0 ≤ f
      · by_cases h3 : f ≤ 100
        · by_cases h4 : 0 ≤ u
          · by_cases h5 : u ≤ 10000
            · go_enter Try.func47, Try.ntmps47
              go_wp2
              go_ret
              exact ⟨ret_bool (tkB_iff.2 ⟨h0, h1, h2, h3, h4, h5⟩).symm, (by repeat (first | with_reducible exact New.refl _ | with_reducible assumption | refine New.drewN ?_ _ | refine New.drew ?_ | refine New.alloc ?_ _ | refine New.setCell ?_ (by first | omega | (simp; omega) | (simp; done)) _ | (refine New.trans ?_ (by assumption))))⟩
            · have h5f : decide (u ≤ 10000) = false := by simpa using h5
              go_enter Try.func47, Try.ntmps47
              go_wp2
              go_ret
              exact ⟨ret_bool (show false = tkB (a, f, u) from (bool_no fun h => by have q := tkB_iff.1 h; have q1 := q.a1; have q2 := q.a2; have q3 := q.f1; have q4 := q.f2; have q5 := q.w1; have q6 := q.w2; simp only at q1 q2 q3 q4 q5 q6; omega).symm), (by repeat (first | with_reducible exact New.refl _ | with_reducible assumption | refine New.drewN ?_ _ | refine New.drew ?_ | refine New.alloc ?_ _ | refine New.setCell ?_ (by first | omega | (simp; omega) | (simp; done)) _ | (refine New.trans ?_ (by assumption))))⟩
          · have h4f : decide (0 ≤ u) = false := by simpa using h4
            go_enter Try.func47, Try.ntmps47
            go_wp2
            go_ret
            exact ⟨ret_bool (show false = tkB (a, f, u) from (bool_no fun h => by have q := tkB_iff.1 h; have q1 := q.a1; have q2 := q.a2; have q3 := q.f1; have q4 := q.f2; have q5 := q.w1; have q6 := q.w2; simp only at q1 q2 q3 q4 q5 q6; omega).symm), (by repeat (first | with_reducible exact New.refl _ | with_reducible assumption | refine New.drewN ?_ _ | refine New.drew ?_ | refine New.alloc ?_ _ | refine New.setCell ?_ (by first | omega | (simp; omega) | (simp; done)) _ | (refine New.trans ?_ (by assumption))))⟩
        · have h3f : decide (f ≤ 100) = false := by simpa using h3
          go_enter Try.func47, Try.ntmps47
          go_wp2
          go_ret
          exact ⟨ret_bool (show false = tkB (a, f, u) from (bool_no fun h => by have q := tkB_iff.1 h; have q1 := q.a1; have q2 := q.a2; have q3 := q.f1; have q4 := q.f2; have q5 := q.w1; have q6 := q.w2; simp only at q1 q2 q3 q4 q5 q6; omega).symm), (by repeat (first | with_reducible exact New.refl _ | with_reducible assumption | refine New.drewN ?_ _ | refine New.drew ?_ | refine New.alloc ?_ _ | refine New.setCell ?_ (by first | omega | (simp; omega) | (simp; done)) _ | (refine New.trans ?_ (by assumption))))⟩
      · have h2f : decide (0 ≤ f) = false := by simpa using h2
        go_enter Try.func47, Try.ntmps47
        go_wp2
        go_ret
        exact ⟨ret_bool (show false = tkB (a, f, u) from (bool_no fun h => by have q := tkB_iff.1 h; have q1 := q.a1; have q2 := q.a2; have q3 := q.f1; have q4 := q.f2; have q5 := q.w1; have q6 := q.w2; simp only at q1 q2 q3 q4 q5 q6; omega).symm), (by repeat (first | with_reducible exact New.refl _ | with_reducible assumption | refine New.drewN ?_ _ | refine New.drew ?_ | refine New.alloc ?_ _ | refine New.setCell ?_ (by first | omega | (simp; omega) | (simp; done)) _ | (refine New.trans ?_ (by assumption))))⟩
    · have h1f : decide (a ≤ 50) = false := by simpa using h1
      go_enter Try.func47, Try.ntmps47
      go_wp2
      go_ret
      exact ⟨ret_bool (show false = tkB (a, f, u) from (bool_no fun h => by have q := tkB_iff.1 h; have q1 := q.a1; have q2 := q.a2; have q3 := q.f1; have q4 := q.f2; have q5 := q.w1; have q6 := q.w2; simp only at q1 q2 q3 q4 q5 q6; omega).symm), (by repeat (first | with_reducible exact New.refl _ | with_reducible assumption | refine New.drewN ?_ _ | refine New.drew ?_ | refine New.alloc ?_ _ | refine New.setCell ?_ (by first | omega | (simp; omega) | (simp; done)) _ | (refine New.trans ?_ (by assumption))))⟩
  · have h0f : decide (1 ≤ a) = false := by simpa using h0
    go_enter Try.func47, Try.ntmps47
    go_wp2
    go_ret
    exact ⟨ret_bool (show false = tkB (a, f, u) from (bool_no fun h => by have q := tkB_iff.1 h; have q1 := q.a1; have q2 := q.a2; have q3 := q.f1; have q4 := q.f2; have q5 := q.w1; have q6 := q.w2; simp only at q1 q2 q3 q4 q5 q6; omega).symm), (by repeat (first | with_reducible exact New.refl _ | with_reducible assumption | refine New.drewN ?_ _ | refine New.drew ?_ | refine New.alloc ?_ _ | refine New.setCell ?_ (by first | omega | (simp; omega) | (simp; done)) _ | (refine New.trans ?_ (by assumption))))⟩

theorem iAreTanks_any (w : World) (aa : Option Addr) (n ca : Nat) (T : List Tk) (ha : Tanks w aa n ca T) :
    Calls Try.prog 29 #[.slice aa n ca] w fun e w' => e = .returned (.bool (tksB T)) ∧ New w w' := by
  have HL := Lib.hid ha.1
  have hm := ha.2.2.1
  have HA := Lib.hid ha; clear ha
  by_cases hi : inB 1 6 (n : Int) = true
  · obtain ⟨h1, h6⟩ := inB_iff.1 hi
    go_enter Try.func29, Try.ntmps29
    go_wp2
    clear hi
    go_loopw [15] (fun i wr => ∃ k : Nat, k ≤ n ∧ i = .int .i64 k ∧ (∀ j, j < k → tkB (T[j]?.getD (0, 0, 0)) = true) ∧ New w wr) (fun i _ => n - (intOf i).toNat)
    case atStart => exact ⟨0, Nat.zero_le _, rfl, fun j hj => absurd hj (by omega), New.refl _⟩
    case round =>
      obtain ⟨k, hk, rfl, hpre, hnw⟩ := hrel
      have HP := Lib.hid hpre; clear hpre
      have NW := Lib.hid hnw; clear hnw
      by_cases hlt : k < n
      · obtain ⟨bx, ox, rfl, g0, g1, g2⟩ := (HA.out.new NW.out).2.2.2.1 k hlt
        by_cases hb : tkB (T[k]?.getD (0, 0, 0)) = true
        · have HB := Lib.hid (show tkB ((T[k]?.getD (0, 0, 0)).1, (T[k]?.getD (0, 0, 0)).2.1, (T[k]?.getD (0, 0, 0)).2.2) = true from hb)
          go_wp2_with fail
          refine (iIsTank_any _ _ _ _).mono ?_
          rintro e w2 ⟨he, n2⟩
          rw [HB.out] at he
          subst he
          have N2 := Lib.hid (show New wr w2 from New.trans (by repeat (first | with_reducible exact New.refl _ | with_reducible assumption | refine New.drewN ?_ _ | refine New.drew ?_ | refine New.alloc ?_ _ | refine New.setCell ?_ (by first | omega | (simp; omega) | (simp; done)) _ | (refine New.trans ?_ (by assumption)))) n2); clear n2
          go_wp2
          go_roundw
          case rel =>
            refine ⟨k + 1, by omega, by go_num, fun j hj => ?_, NW.out.trans N2.out⟩
            by_cases e : j = k
            · subst e; exact hb
            · exact HP.out j (by omega)
          case measure => simp [intOf]; omega
        · have HB := Lib.hid (show tkB ((T[k]?.getD (0, 0, 0)).1, (T[k]?.getD (0, 0, 0)).2.1, (T[k]?.getD (0, 0, 0)).2.2) = false from bool_no hb)
          have HF := Lib.hid (show tksB T = false from bool_no fun h => hb (tkB_iff.2 ((tksB_iff.1 h).all _ (mem_get (by have := HL.out; omega)))))
          clear hb
          go_wp2_with fail
          refine (iIsTank_any _ _ _ _).mono ?_
          rintro e w2 ⟨he, n2⟩
          rw [HB.out] at he
          subst he
          have N2 := Lib.hid (show New wr w2 from New.trans (by repeat (first | with_reducible exact New.refl _ | with_reducible assumption | refine New.drewN ?_ _ | refine New.drew ?_ | refine New.alloc ?_ _ | refine New.setCell ?_ (by first | omega | (simp; omega) | (simp; done)) _ | (refine New.trans ?_ (by assumption)))) n2); clear n2
          go_wp2
          go_ret
          exact ⟨ret_bool HF.out.symm, NW.out.trans N2.out⟩
      · have HF := Lib.hid (show tksB T = true from tksB_iff.2 (TksOk.of_get (by have := HL.out; omega) (by have := HL.out; omega) (fun j hj => HP.out j (by have := HL.out; omega))))
        go_wp2
        go_ret
        exact ⟨ret_bool HF.out.symm, NW.out⟩
  · have hi' : inB 1 6 (n : Int) = false := by simpa using hi
    have hn := inB_false.1 hi'
    have HF := Lib.hid (show tksB T = false from bool_no fun h => hn (by have := (tksB_iff.1 h).l1; have := (tksB_iff.1 h).l6; have := HL.out; omega))
    clear hi
    by_cases hz : n = 0
    · subst hz
      clear hn
      go_enter Try.func29, Try.ntmps29
      go_wp2
      go_ret
      exact ⟨ret_bool HF.out.symm, New.refl _⟩
    · have h7 : 6 < n := by omega
      clear hn
      go_enter Try.func29, Try.ntmps29
      go_wp2
      go_ret
      exact ⟨ret_bool HF.out.symm, New.refl _⟩
end Go.Proofs.Ytlhpkpfnaepgbaa
