/- What is held along moves, the model's: veMoves, veAlong. -/
import Derived.Test.YtkonhflamnekcaaAlong
import Derived.Test.YtkonhflamnekcaaSpec5
import Derived.Test.YtkonhflamnekcaaOnI2
import Derived.Deep.RegionHeld3
namespace Go.Proofs.Ytkonhflamnekcaa
open Go.RowKit

theorem veMoves_any (w : World) (aa ab ma : Option Addr) (n m ca cb mn mc : Nat) (S H : List Int) (L : List (Int × Int)) (h1 : Ints w aa n ca S) (h2 : Ints w ab m cb H) (h3 : Pairs w ma mn mc L) :
    Calls Try.prog 42 #[.agg #[.slice aa n ca, .slice ab m cb], .slice ma mn mc] w fun e w' => e = .returned (.bool (movesB S H L)) ∧ New w w' := by
  have HA := Lib.hid h1; clear h1
  have HB := Lib.hid h2; clear h2
  have HM := Lib.hid h3; clear h3
  have hmm := HM.out.2.2.1
  by_cases hg : goodB S H = true
  · have hG := goodB_iff.1 hg
    have q5 : n ≤ 5 := by have := hG.1; have := HA.out.len; omega
    have HN := Lib.hid (And.intro HA.out.len HM.out.len)
    have HG := Lib.hid hG; clear hG
    by_cases h100 : mn ≤ 100
    · go_enter Try.func42, Try.ntmps42
      go_wp2_with fail
      refine (veGood_any _ _ _ _ _ _ _ _ _ (HA.out.new (by repeat (first | with_reducible exact New.refl _ | with_reducible assumption | refine New.drewN ?_ _ | refine New.drew ?_ | refine New.alloc ?_ _ | refine New.setCell ?_ (by first | omega | (simp; omega) | (simp; done)) _ | (refine New.trans ?_ (by assumption))))) (HB.out.new (by repeat (first | with_reducible exact New.refl _ | with_reducible assumption | refine New.drewN ?_ _ | refine New.drew ?_ | refine New.alloc ?_ _ | refine New.setCell ?_ (by first | omega | (simp; omega) | (simp; done)) _ | (refine New.trans ?_ (by assumption)))))).mono ?_
      rintro e w1 ⟨rfl, n1⟩
      have a0 : w1.cell? ⟨w.heap.size, 0, none⟩ = some (.slice aa n ca) := n1.cell (by simp [go_sem])
      have N1 := Lib.hid (show New w w1 from New.trans (by repeat (first | with_reducible exact New.refl _ | with_reducible assumption | refine New.drewN ?_ _ | refine New.drew ?_ | refine New.alloc ?_ _ | refine New.setCell ?_ (by first | omega | (simp; omega) | (simp; done)) _ | (refine New.trans ?_ (by assumption)))) n1); clear n1
      have A1 := Lib.hid a0
      go_wp2
      go_loopw [17] (fun i wr => ∃ k : Nat, k ≤ mn ∧ i = .int .i64 k ∧ New w1 wr ∧ ∀ j, j < k → moveB S.length (L[j]?.getD (0, 0)).1 (L[j]?.getD (0, 0)).2 = true) (fun i _ => mn - (intOf i).toNat)
      case atStart => exact ⟨0, Nat.zero_le _, rfl, New.refl _, fun j hj => absurd hj (by omega)⟩
      case round =>
        obtain ⟨k, hk, rfl, hnw, hpre⟩ := hrel
        have NW := Lib.hid hnw; clear hnw
        have HP0 := Lib.hid hpre; clear hpre
        clear a0
        have a0 := NW.out.cell A1.out
        have zq : w.heap.size < wr.heap.size := World.block_lt_of_cell? _ _ a0
        by_cases hlt : k < mn
        · obtain ⟨bm, om_, rfl, e0, e1⟩ := (HM.out.new (N1.out.trans NW.out)).2.2.2.1 k hlt
          obtain ⟨p, hp⟩ : ∃ p, p = L[k]?.getD (0, 0) := ⟨_, rfl⟩
          rw [← hp] at e0 e1
          obtain ⟨f, t⟩ := p
          simp only at e0 e1
          have HP := Lib.hid hp; clear hp
          go_wp2_with fail
          refine (veMove_any _ n f t q5).mono ?_
          rintro e w3 ⟨rfl, n3⟩
          have N3 := Lib.hid (show New wr w3 from New.trans (by repeat (first | with_reducible exact New.refl _ | with_reducible assumption | refine New.drewN ?_ _ | refine New.drew ?_ | refine New.alloc ?_ _ | refine New.setCell ?_ (by first | omega | (simp; omega) | (simp; done)) _ | (refine New.trans ?_ (by assumption)))) n3); clear n3 e0 e1
          by_cases okb : moveB n f t = true
          · go_wp2
            go_roundw
            case rel =>
              refine ⟨k + 1, by omega, by go_num, NW.out.trans N3.out, fun j hj => ?_⟩
              by_cases e : j = k
              · subst e; rw [← HP.out, ← HN.out.1]; exact okb
              · exact HP0.out j (by omega)
            case measure => simp [intOf]; omega
          · have okn : moveB n f t = false := by simpa using okb
            go_wp2
            go_ret
            refine ⟨ret_bool ?_, (N1.out.trans NW.out).trans N3.out⟩
            symm
            rw [← Bool.not_eq_true]
            intro h
            have q := movesOk_at (movesB_iff.1 h).2.2 (show k < L.length by have := HN.out.2; omega)
            rw [← HP.out] at q
            rw [HN.out.1, moveB_false] at okn
            exact okn q
        · obtain rfl : k = mn := by omega
          go_wp2
          go_ret
          exact ⟨ret_bool (movesB_iff.2 ⟨HG.out, by have := HN.out.2; omega, movesOk_yes fun j hj => HP0.out j (by have := HN.out.2; omega)⟩).symm, N1.out.trans NW.out⟩
    · have HNO := Lib.hid (show movesB S H L = false by unfold movesB; have := HN.out.2; simp [show ¬ L.length ≤ 100 by omega])
      have h101 : (100 : Int) < (mn : Int) := by omega
      go_enter Try.func42, Try.ntmps42
      go_wp2_with fail
      refine (veGood_any _ _ _ _ _ _ _ _ _ (HA.out.new (by repeat (first | with_reducible exact New.refl _ | with_reducible assumption | refine New.drewN ?_ _ | refine New.drew ?_ | refine New.alloc ?_ _ | refine New.setCell ?_ (by first | omega | (simp; omega) | (simp; done)) _ | (refine New.trans ?_ (by assumption))))) (HB.out.new (by repeat (first | with_reducible exact New.refl _ | with_reducible assumption | refine New.drewN ?_ _ | refine New.drew ?_ | refine New.alloc ?_ _ | refine New.setCell ?_ (by first | omega | (simp; omega) | (simp; done)) _ | (refine New.trans ?_ (by assumption)))))).mono ?_
      rintro e w1 ⟨rfl, n1⟩
      go_wp2
      go_ret
      exact ⟨ret_bool HNO.out.symm, New.trans (by repeat (first | with_reducible exact New.refl _ | with_reducible assumption | refine New.drewN ?_ _ | refine New.drew ?_ | refine New.alloc ?_ _ | refine New.setCell ?_ (by first | omega | (simp; omega) | (simp; done)) _ | (refine New.trans ?_ (by assumption)))) n1⟩
  · have hg' : goodB S H = false := by simpa using hg
    have HNO := Lib.hid (show movesB S H L = false by unfold movesB; simp [hg'])
    go_enter Try.func42, Try.ntmps42
    go_wp2_with fail
    refine (veGood_any _ _ _ _ _ _ _ _ _ (HA.out.new (by repeat (first | with_reducible exact New.refl _ | with_reducible assumption | refine New.drewN ?_ _ | refine New.drew ?_ | refine New.alloc ?_ _ | refine New.setCell ?_ (by first | omega | (simp; omega) | (simp; done)) _ | (refine New.trans ?_ (by assumption))))) (HB.out.new (by repeat (first | with_reducible exact New.refl _ | with_reducible assumption | refine New.drewN ?_ _ | refine New.drew ?_ | refine New.alloc ?_ _ | refine New.setCell ?_ (by first | omega | (simp; omega) | (simp; done)) _ | (refine New.trans ?_ (by assumption)))))).mono ?_
    rintro e w1 ⟨rfl, n1⟩
    go_wp2
    go_ret
    exact ⟨ret_bool HNO.out.symm, New.trans (by repeat (first | with_reducible exact New.refl _ | with_reducible assumption | refine New.drewN ?_ _ | refine New.drew ?_ | refine New.alloc ?_ _ | refine New.setCell ?_ (by first | omega | (simp; omega) | (simp; done)) _ | (refine New.trans ?_ (by assumption)))) n1⟩

/-- Pairs of values, one behind the other. -/
def flatPQ (P Q : Nat → Value) : Nat → List Value
  | 0 => []
  | k + 1 => flatPQ P Q k ++ [P k, Q k]
theorem flatPQ_length (P Q : Nat → Value) (k : Nat) : (flatPQ P Q k).length = k * 2 := by
  induction k with
  | zero => rfl
  | succ k ih => simp [flatPQ, ih]; omega
theorem flatPQ_congr {P Q P' Q' : Nat → Value} {n : Nat} (h : ∀ j, j < n → P' j = P j ∧ Q' j = Q j) : flatPQ P' Q' n = flatPQ P Q n := by
  induction n with
  | zero => rfl
  | succ n ih => rw [flatPQ, flatPQ, ih fun j hj => h j (by omega), (h n (by omega)).1, (h n (by omega)).2]
theorem flatPQ_get (P Q : Nat → Value) {n j : Nat} (hj : j < n) : (flatPQ P Q n)[j * 2]? = some (P j) ∧ (flatPQ P Q n)[j * 2 + 1]? = some (Q j) := by
  induction n with
  | zero => omega
  | succ n ih =>
    have hl := flatPQ_length P Q n
    by_cases h : j < n
    · rw [flatPQ, List.getElem?_append_left (by omega), List.getElem?_append_left (by omega)]
      exact ih h
    · obtain rfl : j = n := by omega
      rw [flatPQ, List.getElem?_append_right (by omega), List.getElem?_append_right (by omega)]
      have e : j * 2 - (flatPQ P Q j).length = 0 := by omega
      have e1 : j * 2 + 1 - (flatPQ P Q j).length = 1 := by omega
      rw [e, e1]
      exact ⟨rfl, rfl⟩

/-- One of the vessels in the list: own rows from lo on, apart from the list's row. -/
def Ves (w : World) (lo : Nat) (row : Option Nat) (S H : List Int) (p q : Value) : Prop :=
  ∃ sa n sc sb m sd, p = .slice sa n sc ∧ q = .slice sb m sd ∧ OwnV w lo w.heap.size sa n sc sb m sd S H ∧ (n ≠ 0 → blkOf sa ≠ row) ∧ (m ≠ 0 → blkOf sb ≠ row)
theorem Ves.new {w w' : World} {lo : Nat} {row : Option Nat} {S H : List Int} {p q : Value} (h : Ves w lo row S H p q) (k : New w w') : Ves w' lo row S H p q := by
  obtain ⟨sa, n, sc, sb, m, sd, e1, e2, o, b1, b2⟩ := h
  exact ⟨sa, n, sc, sb, m, sd, e1, e2, (o.new k).mono (Nat.le_refl _) k.size, b1, b2⟩
theorem Ves.grown {w w' : World} {lo g : Nat} {row : Option Nat} {S H : List Int} {p q : Value} (h : Ves w lo row S H p q) (k : w.grownBy w' row) (hg : row = some g ∨ g = w.heap.size) : Ves w' lo (some g) S H p q := by
  obtain ⟨sa, n, sc, sb, m, sd, e1, e2, o, b1, b2⟩ := h
  refine ⟨sa, n, sc, sb, m, sd, e1, e2, OwnV.mono ⟨?_, ?_, o.2.2⟩ (Nat.le_refl _) k.size, fun hn e => ?_, fun hm e => ?_⟩
  · exact o.1.turned fun b hn hb hlt => k.block b hlt fun e => b1 hn (hb.trans e)
  · exact o.2.1.turned fun b hn hb hlt => k.block b hlt fun e => b2 hn (hb.trans e)
  · rcases hg with hg | hg
    · exact b1 hn (e.trans hg.symm)
    · have := (o.1.bounds hn e).2; omega
  · rcases hg with hg | hg
    · exact b2 hm (e.trans hg.symm)
    · have := (o.2.1.bounds hm e).2; omega
theorem Ves.chg {Pb : Nat → Prop} {w w' : World} {lo : Nat} {row : Option Nat} {S H : List Int} {p q : Value} (h : Ves w lo row S H p q) (k : Chg Pb w w') (hP : ∀ b, lo ≤ b → ¬ Pb b) : Ves w' lo row S H p q := by
  obtain ⟨sa, n, sc, sb, m, sd, e1, e2, o, b1, b2⟩ := h
  exact ⟨sa, n, sc, sb, m, sd, e1, e2, (o.chg k fun b h1 _ => hP b h1).mono (Nat.le_refl _) k.size, b1, b2⟩

/-- A list of vessels of a call's own: element k holds A k. -/
def VesL (w : World) (lo : Nat) (v : Value) (N : Nat) (S : List Int) (A : Nat → List Int) : Prop :=
  ∃ b cap, v = .slice (some ⟨b, 0, none⟩) N cap ∧ N ≤ cap ∧ lo ≤ b ∧ b < w.heap.size ∧ ∀ j, j < N → ∃ p q, w.cell? ⟨b, j * 2, none⟩ = some p ∧ w.cell? ⟨b, j * 2 + 1, none⟩ = some q ∧ Ves w lo (some b) S (A j) p q
theorem VesL.of_row {w : World} {base lo N : Nat} {v : Value} {P Q : Nat → Value} {S : List Int} {A : Nat → List Int} (h : w.ownsRow base 28 2 v N (flatPQ P Q N)) (hN : 0 < N) (hlo : lo ≤ base)
    (hv : ∀ j, j < N → Ves w lo v.ownBlock S (A j) (P j) (Q j)) : VesL w lo v N S A := by
  obtain ⟨_, h⟩ := h
  rcases h with ⟨rfl, rfl⟩ | ⟨g, cap, cur, rfl, hb, hh, hc, hm, hs, ht⟩
  · omega
  · have at_ : ∀ i u, i < N * 2 → (flatPQ P Q N)[i]? = some u → w.cell? ⟨g, i, none⟩ = some u := fun i u hi hu => by
      rw [← ht, List.getElem?_take, if_pos hi] at hu
      rw [cell_of_row w g _ cur _ (0, 0) hh]
      simpa using hu
    refine ⟨g, cap, rfl, hc, by omega, (Array.getElem?_eq_some_iff.1 hh).1, fun j hj => ⟨P j, Q j, ?_, ?_, hv j hj⟩⟩
    · exact at_ _ _ (by omega) (flatPQ_get P Q hj).1
    · exact at_ _ _ (by omega) (flatPQ_get P Q hj).2
end Go.Proofs.Ytkonhflamnekcaa
