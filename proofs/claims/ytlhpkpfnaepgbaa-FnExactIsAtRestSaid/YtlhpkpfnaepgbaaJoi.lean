/- AreJoins: the model's and the program's. -/
import Derived.Test.YtlhpkpfnaepgbaaArgSS
import Derived.Test.YtlhpkpfnaepgbaaSm
import Derived.Deep.QuietTactic
import Derived.WalkMore
import Derived.ScopeJumps
namespace Go.Proofs.Ytlhpkpfnaepgbaa
open Go.RowKit Go.IntWalk

/-- Which joins there are among t tanks. -/
def jokB (t : Nat) (l : List Int) : Bool := decide (l.length = 2) && allB 0 ((t : Int) - 1) l && !(decide (l[0]?.getD 0 = l[1]?.getD 0))
def jnB (t : Nat) (L : List (List Int)) : Bool := decide (L.length ≤ 15) && L.all (jokB t)
theorem jnB_long {t : Nat} {L : List (List Int)} (h : 15 < L.length) : jnB t L = false := by
  unfold jnB; rw [decide_eq_false (by omega)]; rfl
theorem jnB_bad {t k : Nat} {L : List (List Int)} (hk : k < L.length) (h : jokB t (L[k]?.getD []) = false) : jnB t L = false := by
  rw [← Bool.not_eq_true]
  intro e
  unfold jnB at e
  rw [Bool.and_eq_true, List.all_eq_true] at e
  have := e.2 L[k] (List.getElem_mem hk)
  rw [List.getElem?_eq_getElem hk] at h
  simp only [Option.getD_some] at h
  rw [h] at this
  cases this
theorem jnB_good {t : Nat} {L : List (List Int)} (h15 : L.length ≤ 15) (h : ∀ j, j < L.length → jokB t (L[j]?.getD []) = true) : jnB t L = true := by
  unfold jnB
  rw [Bool.and_eq_true, List.all_eq_true]
  refine ⟨decide_eq_true h15, fun x hx => ?_⟩
  obtain ⟨j, hj, rfl⟩ := List.getElem_of_mem hx
  have := h j hj
  rw [List.getElem?_eq_getElem hj] at this
  exact this

theorem l1All_any (w : World) (aa : Option Addr) (n ca : Nat) (l : List Int) (lo hi : Int) (ha : Ints w aa n ca l) :
    Calls Try.prog 57 #[.slice aa n ca, .int .i64 lo, .int .i64 hi] w fun e w' => e = .returned (.bool (allB lo hi l)) ∧ w = w' := by
  have HA := Lib.hid ha; clear ha
  have hm := HA.out.2.2.1
  go_enter Try.func57, Try.ntmps57
  go_wp2
  go_loop [11] (fun i => ∃ k : Nat, k ≤ n ∧ i = .int .i64 k ∧ ∀ j, j < k → inB lo hi (l[j]?.getD 0) = true) (fun i => n - (intOf i).toNat)
  case atStart => exact ⟨0, Nat.zero_le _, rfl, fun j hj => absurd hj (by omega)⟩
  case round =>
    obtain ⟨k, hk, rfl, hpre⟩ := hrel
    have HP := Lib.hid hpre; clear hpre
    by_cases hlt : k < n
    · obtain ⟨b, o, rfl, hc, _⟩ := HA.out.at hlt
      go_wp2_with (go_at_call 55; refine (l1In_any _ _ _ _).mono ?_; rintro e w' ⟨rfl, rfl⟩)
      · have hb : inB lo hi (l[k]?.getD 0) = false := by rw [← Bool.not_eq_true']; assumption
        go_ret
        refine ⟨ret_bool ?_, rfl⟩
        symm
        rw [← Bool.not_eq_true, allB_iff]
        intro h
        rw [inB_false] at hb
        exact hb (h k (by have := HA.out.len; omega))
      · have hb : inB lo hi (l[k]?.getD 0) = true := by rw [← Bool.not_eq_false']; assumption
        go_round
        case rel =>
          refine ⟨k + 1, by omega, by go_num, fun j hj => ?_⟩
          by_cases e : j = k
          · subst e; exact hb
          · exact HP.out j (by omega)
        case measure => simp [intOf]; omega
    · go_wp2
      go_ret
      refine ⟨ret_bool ?_, rfl⟩
      symm
      rw [allB_iff]
      intro j hj
      exact inB_iff.1 (HP.out j (by have := HA.out.len; omega))

theorem areWithin_any (w : World) (aa : Option Addr) (n ca : Nat) (l : List Int) (lo hi : Int) (ha : Ints w aa n ca l) :
    Calls Try.prog 48 #[.slice aa n ca, .int .i64 lo, .int .i64 hi] w fun e w' => e = .returned (.bool (allB lo hi l)) ∧ w = w' := by
  have HA := Lib.hid ha; clear ha
  have hm := HA.out.2.2.1
  go_enter Try.func48, Try.ntmps48
  go_wp2
  go_loop [11] (fun i => ∃ k : Nat, k ≤ n ∧ i = .int .i64 k ∧ ∀ j, j < k → inB lo hi (l[j]?.getD 0) = true) (fun i => n - (intOf i).toNat)
  case atStart => exact ⟨0, Nat.zero_le _, rfl, fun j hj => absurd hj (by omega)⟩
  case round =>
    obtain ⟨k, hk, rfl, hpre⟩ := hrel
    have HP := Lib.hid hpre; clear hpre
    by_cases hlt : k < n
    · obtain ⟨b, o, rfl, hc, _⟩ := HA.out.at hlt
      obtain ⟨u, hu⟩ : ∃ u, u = l[k]?.getD 0 := ⟨_, rfl⟩
      rw [← hu] at hc
      have HU := Lib.hid hu; clear hu
      by_cases hb : inB lo hi u = true
      · obtain ⟨g1, g2⟩ := inB_iff.1 hb
        go_wp2
        go_round
        case rel =>
          refine ⟨k + 1, by omega, by go_num, fun j hj => ?_⟩
          by_cases e : j = k
          · subst e; rw [← HU.out]; exact hb
          · exact HP.out j (by omega)
        case measure => simp [intOf]; omega
      · have hbf : inB lo hi u = false := by simpa using hb
        by_cases g1 : u < lo
        · go_wp2
          go_ret
          refine ⟨ret_bool ?_, rfl⟩
          symm
          rw [← Bool.not_eq_true, allB_iff]
          intro h
          have := h k (by have := HA.out.len; omega)
          rw [← HU.out] at this
          omega
        · have g2 : hi < u := by rw [inB_false] at hbf; omega
          go_wp2
          go_ret
          refine ⟨ret_bool ?_, rfl⟩
          symm
          rw [← Bool.not_eq_true, allB_iff]
          intro h
          have := h k (by have := HA.out.len; omega)
          rw [← HU.out] at this
          omega
    · go_wp2
      go_ret
      refine ⟨ret_bool ?_, rfl⟩
      symm
      rw [allB_iff]
      intro j hj
      exact inB_iff.1 (HP.out j (by have := HA.out.len; omega))

theorem l1AllQ {w : World} {aa : Option Addr} {n ca : Nat} {l : List Int} {lo hi : Int} {v : Bool} (ha : Ints w aa n ca l) (h : allB lo hi l = v) :
    Calls Try.prog 57 #[.slice aa n ca, .int .i64 lo, .int .i64 hi] w fun e w' => e = .returned (.bool v) ∧ ∃ q, w' = w.drewN q :=
  (l1All_any w _ _ _ _ _ _ ha).mono fun e w' k => ⟨by rw [k.1, h], 0, k.2.symm⟩
theorem areWithinQ {w : World} {aa : Option Addr} {n ca : Nat} {l : List Int} {lo hi : Int} {v : Bool} (ha : Ints w aa n ca l) (h : allB lo hi l = v) :
    Calls Try.prog 48 #[.slice aa n ca, .int .i64 lo, .int .i64 hi] w fun e w' => e = .returned (.bool v) ∧ ∃ q, w' = w.drewN q :=
  (areWithin_any w _ _ _ _ _ _ ha).mono fun e w' k => ⟨by rw [k.1, h], 0, k.2.symm⟩

set_option maxRecDepth 100000 in
set_option maxHeartbeats 4000000 in
theorem leJoins_any (w : World) (aa : Option Addr) (n ca t : Nat) (L : List (List Int)) (ha : IntSS w aa n ca L) (ht : t ≤ 6) :
    Calls Try.prog 45 #[.int .i64 t, .slice aa n ca] w fun e w' => e = .returned (.bool (jnB t L)) ∧ New w w' := by
  have HN := Lib.hid ha.1
  have hm := ha.2.2.1
  have HA := Lib.hid ha; clear ha
  by_cases h15 : (n : Int) > 15
  · go_enter Try.func45, Try.ntmps45
    go_wp2
    go_ret
    exact ⟨ret_bool (jnB_long (by have := HN.out; omega)).symm, New.refl _⟩
  · go_enter Try.func45, Try.ntmps45
    go_wp2
    go_loopw [12] (fun i wr => ∃ k : Nat, k ≤ n ∧ i = .int .i64 k ∧ (∀ j, j < k → jokB t (L[j]?.getD []) = true) ∧ New w wr) (fun i _ => n - (intOf i).toNat)
    case atStart => exact ⟨0, Nat.zero_le _, rfl, fun j hj => absurd hj (by omega), New.refl _⟩
    case round =>
      obtain ⟨k, hk, rfl, hpre, hnw⟩ := hrel
      have HP := Lib.hid hpre; clear hpre
      have NW := Lib.hid hnw; clear hnw
      by_cases hlt : k < n
      · obtain ⟨b, o, a, m, c, rfl, hc, hi⟩ := (HA.out.new NW.out).2.2.2.1 k hlt
        have KL := Lib.hid (show k < L.length by have := HN.out; omega)
        obtain ⟨l, hl⟩ : ∃ l, l = L[k]?.getD [] := ⟨_, rfl⟩
        rw [← hl] at hi
        have HL := Lib.hid hl; clear hl
        have hm2 := hi.2.2.1
        have HI := Lib.hid hi
        have HM := Lib.hid hi.1; clear hi
        by_cases e2 : m = 2
        · subst e2
          have L2 := Lib.hid (show decide (l.length = 2) = true from decide_eq_true HM.out.symm)
          obtain ⟨v, hv⟩ : ∃ v, allB 0 ((t : Int) - 1) l = v := ⟨_, rfl⟩
          have HV := Lib.hid hv; clear hv
          cases v
          · have JB := Lib.hid (show jokB t (L[k]?.getD []) = false by rw [← HL.out]; unfold jokB; rw [L2.out, HV.out]; rfl)
            have tw : IntKind.i64.wrap ((t : Int) - 1) = (t : Int) - 1 := i64_in _ (by omega)
            go_wp2_with fail
            go_quiet (first | (go_at_call 57; exact Calls.quiet_of (l1AllQ (HI.out.new (by repeat (first | with_reducible exact New.refl _ | with_reducible assumption | refine New.drewN ?_ _ | refine New.drew ?_ | refine New.alloc ?_ _ | refine New.setCell ?_ (by first | omega | (simp; omega) | (simp; done)) _ | (refine New.trans ?_ (by assumption))))) HV.out)))
            clear tw
            go_wp2
            go_ret
            exact ⟨ret_bool (jnB_bad KL.out JB.out).symm, by have := NW.out; (repeat (first | with_reducible exact New.refl _ | with_reducible assumption | refine New.drewN ?_ _ | refine New.drew ?_ | refine New.alloc ?_ _ | refine New.setCell ?_ (by first | omega | (simp; omega) | (simp; done)) _ | (refine New.trans ?_ (by assumption))))⟩
          · obtain ⟨b1, o1, rfl, x0, _⟩ := HI.out.at (j := 0) (by omega)
            obtain ⟨b2, o2, eb, x1, _⟩ := HI.out.at (j := 1) (by omega)
            cases eb
            obtain ⟨p, hp⟩ : ∃ p, p = l[0]?.getD 0 := ⟨_, rfl⟩
            obtain ⟨q, hq⟩ : ∃ q, q = l[1]?.getD 0 := ⟨_, rfl⟩
            rw [← hp, Nat.add_zero] at x0
            rw [← hq] at x1
            by_cases pq : p = q
            · have JB := Lib.hid (show jokB t (L[k]?.getD []) = false by rw [← HL.out]; unfold jokB; rw [L2.out, HV.out, ← hp, ← hq, decide_eq_true pq]; rfl)
              have tw : IntKind.i64.wrap ((t : Int) - 1) = (t : Int) - 1 := i64_in _ (by omega)
              clear hp hq
              subst pq
              go_wp2_with fail
              go_quiet (first | (go_at_call 57; exact Calls.quiet_of (l1AllQ (HI.out.new (by repeat (first | with_reducible exact New.refl _ | with_reducible assumption | refine New.drewN ?_ _ | refine New.drew ?_ | refine New.alloc ?_ _ | refine New.setCell ?_ (by first | omega | (simp; omega) | (simp; done)) _ | (refine New.trans ?_ (by assumption))))) HV.out)))
              clear tw
              go_wp2
              go_ret
              exact ⟨ret_bool (jnB_bad KL.out JB.out).symm, by have := NW.out; (repeat (first | with_reducible exact New.refl _ | with_reducible assumption | refine New.drewN ?_ _ | refine New.drew ?_ | refine New.alloc ?_ _ | refine New.setCell ?_ (by first | omega | (simp; omega) | (simp; done)) _ | (refine New.trans ?_ (by assumption))))⟩
            · have JB := Lib.hid (show jokB t (L[k]?.getD []) = true by rw [← HL.out]; unfold jokB; rw [L2.out, HV.out, ← hp, ← hq, decide_eq_false pq]; rfl)
              have tw : IntKind.i64.wrap ((t : Int) - 1) = (t : Int) - 1 := i64_in _ (by omega)
              have pqf : decide (p = q) = false := decide_eq_false pq
              clear hp hq
              go_wp2_with fail
              go_quiet (first | (go_at_call 57; exact Calls.quiet_of (l1AllQ (HI.out.new (by repeat (first | with_reducible exact New.refl _ | with_reducible assumption | refine New.drewN ?_ _ | refine New.drew ?_ | refine New.alloc ?_ _ | refine New.setCell ?_ (by first | omega | (simp; omega) | (simp; done)) _ | (refine New.trans ?_ (by assumption))))) HV.out)))
              clear tw
              go_wp2
              go_roundw
              case rel =>
                refine ⟨k + 1, by omega, by go_num, fun j hj => ?_, by have := NW.out; (repeat (first | with_reducible exact New.refl _ | with_reducible assumption | refine New.drewN ?_ _ | refine New.drew ?_ | refine New.alloc ?_ _ | refine New.setCell ?_ (by first | omega | (simp; omega) | (simp; done)) _ | (refine New.trans ?_ (by assumption))))⟩
                by_cases e : j = k
                · subst e; exact JB.out
                · exact HP.out j (by omega)
              case measure => simp [intOf]; omega
        · have e3 : ¬ (m : Int) = 2 := by omega
          have JB := Lib.hid (show jokB t (L[k]?.getD []) = false by rw [← HL.out]; unfold jokB; rw [decide_eq_false (by have := HM.out; omega)]; rfl)
          go_wp2_with fail
          go_quiet (fail)
          go_wp2
          go_ret
          exact ⟨ret_bool (jnB_bad KL.out JB.out).symm, by have := NW.out; (repeat (first | with_reducible exact New.refl _ | with_reducible assumption | refine New.drewN ?_ _ | refine New.drew ?_ | refine New.alloc ?_ _ | refine New.setCell ?_ (by first | omega | (simp; omega) | (simp; done)) _ | (refine New.trans ?_ (by assumption))))⟩
      · obtain rfl : k = n := by omega
        go_wp2
        go_ret
        exact ⟨ret_bool (jnB_good (by have := HN.out; omega) (fun j hj => HP.out j (by have := HN.out; omega))).symm, NW.out⟩

set_option maxRecDepth 100000 in
set_option maxHeartbeats 4000000 in
theorem areJoins_any (w : World) (aa : Option Addr) (n ca t : Nat) (L : List (List Int)) (ha : IntSS w aa n ca L) (ht : t ≤ 6) :
    Calls Try.prog 30 #[.int .i64 t, .slice aa n ca] w fun e w' => e = .returned (.bool (jnB t L)) ∧ New w w' := by
  have HN := Lib.hid ha.1
  have hm := ha.2.2.1
  have HA := Lib.hid ha; clear ha
  by_cases h15 : (n : Int) > 15
  · go_enter Try.func30, Try.ntmps30
    go_wp2
    go_ret
    exact ⟨ret_bool (jnB_long (by have := HN.out; omega)).symm, New.refl _⟩
  · go_enter Try.func30, Try.ntmps30
    go_wp2
    go_loopw [12] (fun i wr => ∃ k : Nat, k ≤ n ∧ i = .int .i64 k ∧ (∀ j, j < k → jokB t (L[j]?.getD []) = true) ∧ New w wr) (fun i _ => n - (intOf i).toNat)
    case atStart => exact ⟨0, Nat.zero_le _, rfl, fun j hj => absurd hj (by omega), New.refl _⟩
    case round =>
      obtain ⟨k, hk, rfl, hpre, hnw⟩ := hrel
      have HP := Lib.hid hpre; clear hpre
      have NW := Lib.hid hnw; clear hnw
      by_cases hlt : k < n
      · obtain ⟨b, o, a, m, c, rfl, hc, hi⟩ := (HA.out.new NW.out).2.2.2.1 k hlt
        have KL := Lib.hid (show k < L.length by have := HN.out; omega)
        obtain ⟨l, hl⟩ : ∃ l, l = L[k]?.getD [] := ⟨_, rfl⟩
        rw [← hl] at hi
        have HL := Lib.hid hl; clear hl
        have hm2 := hi.2.2.1
        have HI := Lib.hid hi
        have HM := Lib.hid hi.1; clear hi
        by_cases e2 : m = 2
        · subst e2
          have L2 := Lib.hid (show decide (l.length = 2) = true from decide_eq_true HM.out.symm)
          obtain ⟨v, hv⟩ : ∃ v, allB 0 ((t : Int) - 1) l = v := ⟨_, rfl⟩
          have HV := Lib.hid hv; clear hv
          cases v
          · have JB := Lib.hid (show jokB t (L[k]?.getD []) = false by rw [← HL.out]; unfold jokB; rw [L2.out, HV.out]; rfl)
            have tw : IntKind.i64.wrap ((t : Int) - 1) = (t : Int) - 1 := i64_in _ (by omega)
            go_wp2_with fail
            go_quiet (first | (go_at_call 48; exact Calls.quiet_of (areWithinQ (HI.out.new (by repeat (first | with_reducible exact New.refl _ | with_reducible assumption | refine New.drewN ?_ _ | refine New.drew ?_ | refine New.alloc ?_ _ | refine New.setCell ?_ (by first | omega | (simp; omega) | (simp; done)) _ | (refine New.trans ?_ (by assumption))))) HV.out)))
            clear tw
            go_wp2
            go_ret
            exact ⟨ret_bool (jnB_bad KL.out JB.out).symm, by have := NW.out; (repeat (first | with_reducible exact New.refl _ | with_reducible assumption | refine New.drewN ?_ _ | refine New.drew ?_ | refine New.alloc ?_ _ | refine New.setCell ?_ (by first | omega | (simp; omega) | (simp; done)) _ | (refine New.trans ?_ (by assumption))))⟩
          · obtain ⟨b1, o1, rfl, x0, _⟩ := HI.out.at (j := 0) (by omega)
            obtain ⟨b2, o2, eb, x1, _⟩ := HI.out.at (j := 1) (by omega)
            cases eb
            obtain ⟨p, hp⟩ : ∃ p, p = l[0]?.getD 0 := ⟨_, rfl⟩
            obtain ⟨q, hq⟩ : ∃ q, q = l[1]?.getD 0 := ⟨_, rfl⟩
            rw [← hp, Nat.add_zero] at x0
            rw [← hq] at x1
            by_cases pq : p = q
            · have JB := Lib.hid (show jokB t (L[k]?.getD []) = false by rw [← HL.out]; unfold jokB; rw [L2.out, HV.out, ← hp, ← hq, decide_eq_true pq]; rfl)
              have tw : IntKind.i64.wrap ((t : Int) - 1) = (t : Int) - 1 := i64_in _ (by omega)
              clear hp hq
              subst pq
              go_wp2_with fail
              go_quiet (first | (go_at_call 48; exact Calls.quiet_of (areWithinQ (HI.out.new (by repeat (first | with_reducible exact New.refl _ | with_reducible assumption | refine New.drewN ?_ _ | refine New.drew ?_ | refine New.alloc ?_ _ | refine New.setCell ?_ (by first | omega | (simp; omega) | (simp; done)) _ | (refine New.trans ?_ (by assumption))))) HV.out)))
              clear tw
              go_wp2
              go_ret
              exact ⟨ret_bool (jnB_bad KL.out JB.out).symm, by have := NW.out; (repeat (first | with_reducible exact New.refl _ | with_reducible assumption | refine New.drewN ?_ _ | refine New.drew ?_ | refine New.alloc ?_ _ | refine New.setCell ?_ (by first | omega | (simp; omega) | (simp; done)) _ | (refine New.trans ?_ (by assumption))))⟩
            · have JB := Lib.hid (show jokB t (L[k]?.getD []) = true by rw [← HL.out]; unfold jokB; rw [L2.out, HV.out, ← hp, ← hq, decide_eq_false pq]; rfl)
              have tw : IntKind.i64.wrap ((t : Int) - 1) = (t : Int) - 1 := i64_in _ (by omega)
              have pqf : decide (p = q) = false := decide_eq_false pq
              clear hp hq
              go_wp2_with fail
              go_quiet (first | (go_at_call 48; exact Calls.quiet_of (areWithinQ (HI.out.new (by repeat (first | with_reducible exact New.refl _ | with_reducible assumption | refine New.drewN ?_ _ | refine New.drew ?_ | refine New.alloc ?_ _ | refine New.setCell ?_ (by first | omega | (simp; omega) | (simp; done)) _ | (refine New.trans ?_ (by assumption))))) HV.out)))
              clear tw
              go_wp2
              go_roundw
              case rel =>
                refine ⟨k + 1, by omega, by go_num, fun j hj => ?_, by have := NW.out; (repeat (first | with_reducible exact New.refl _ | with_reducible assumption | refine New.drewN ?_ _ | refine New.drew ?_ | refine New.alloc ?_ _ | refine New.setCell ?_ (by first | omega | (simp; omega) | (simp; done)) _ | (refine New.trans ?_ (by assumption))))⟩
                by_cases e : j = k
                · subst e; exact JB.out
                · exact HP.out j (by omega)
              case measure => simp [intOf]; omega
        · have e3 : ¬ (m : Int) = 2 := by omega
          have JB := Lib.hid (show jokB t (L[k]?.getD []) = false by rw [← HL.out]; unfold jokB; rw [decide_eq_false (by have := HM.out; omega)]; rfl)
          go_wp2_with fail
          go_quiet (fail)
          go_wp2
          go_ret
          exact ⟨ret_bool (jnB_bad KL.out JB.out).symm, by have := NW.out; (repeat (first | with_reducible exact New.refl _ | with_reducible assumption | refine New.drewN ?_ _ | refine New.drew ?_ | refine New.alloc ?_ _ | refine New.setCell ?_ (by first | omega | (simp; omega) | (simp; done)) _ | (refine New.trans ?_ (by assumption))))⟩
      · obtain rfl : k = n := by omega
        go_wp2
        go_ret
        exact ⟨ret_bool (jnB_good (by have := HN.out; omega) (fun j hj => HP.out j (by have := HN.out; omega))).symm, NW.out⟩
end Go.Proofs.Ytlhpkpfnaepgbaa
