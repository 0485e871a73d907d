/- The model's search as it lies in memory; the order of vessels; where vessels are among those that are found. -/
import Derived.Test.YtilepckgcgdjgaaBfs
import Derived.Test.YtilepckgcgdjgaaBoxRows
import Derived.Test.YtilepckgcgdjgaaSpec5
import Derived.Deep.RegionHeld3
import Derived.Deep.DeepCutAuto
import Derived.Deep.RegionWith
namespace Go.Proofs.Ytilepckgcgdjgaa
open Go.RowKit

/-- A search as it reads: the vessels that are found, and their numbers in order. -/
def ReachR (w : World) (R : Nat) (S : List Int) (L : List Node) (O : List Nat) : Prop :=
  ∃ ga ca go co, w.cell? ⟨R, 0, none⟩ = some (.slice (some ⟨ga, 0, none⟩) L.length ca) ∧ w.cell? ⟨R, 4, none⟩ = some (.slice (some ⟨go, 0, none⟩) L.length co) ∧
    (∀ k, k < L.length → ∃ sa n sc sb m sd, w.cell? ⟨ga, k * 2, none⟩ = some (.slice sa n sc) ∧ w.cell? ⟨ga, k * 2 + 1, none⟩ = some (.slice sb m sd) ∧ Ints w sa n sc S ∧ Ints w sb m sd (L[k]?.getD dN).h) ∧
    (∀ i, i < L.length → w.cell? ⟨go, i, none⟩ = some (.int .i64 ((O[i]?.getD 0 : Nat) : Int)))
theorem ReachR.new {w w' : World} {R : Nat} {S : List Int} {L : List Node} {O : List Nat} (h : ReachR w R S L O) (k : New w w') : ReachR w' R S L O := by
  obtain ⟨ga, ca, go, co, c0, c4, h1, h2⟩ := h
  refine ⟨ga, ca, go, co, k.cell c0, k.cell c4, fun j hj => ?_, fun i hi => k.cell (h2 i hi)⟩
  obtain ⟨sa, n, sc, sb, m, sd, e1, e2, i1, i2⟩ := h1 j hj
  exact ⟨sa, n, sc, sb, m, sd, k.cell e1, k.cell e2, i1.new k, i2.new k⟩

theorem plLess_any (w : World) (aa ab ba bb : Option Addr) (n m n' m' ca cb cc cd : Nat) (H K : List Int) (h1 : Ints w ab m cb H) (h2 : Ints w bb m' cd K) (hl : H.length = K.length) :
    Calls Try.prog 63 #[.agg #[.slice aa n ca, .slice ab m cb], .agg #[.slice ba n' cc, .slice bb m' cd]] w fun e w' => e = .returned (.bool (lexB H K)) ∧ New w w' := by
  have hm1 := h1.2.2.1
  have L1 := Lib.hid (And.intro h1.1 (And.intro h2.1 hl)); clear hl
  have hmm : m' = m := by have := L1.out; omega
  subst hmm
  have HA := Lib.hid h1; clear h1
  have HB := Lib.hid h2; clear h2
  go_enter Try.func63, Try.ntmps63
  go_wp2
  go_loopw [10] (fun i wr => ∃ k : Nat, k ≤ m' ∧ i = .int .i64 k ∧ New w wr ∧ wr.cell? ⟨w.heap.size + 1, 1, none⟩ = some (.slice bb m' cd) ∧ ∀ j, j < k → H[j]?.getD 0 = K[j]?.getD 0) (fun i _ => m' - (intOf i).toNat)
  case atStart => exact ⟨0, Nat.zero_le _, rfl, (by repeat (first | with_reducible exact New.refl _ | with_reducible assumption | refine New.drewN ?_ _ | refine New.drew ?_ | refine New.alloc ?_ _ | refine New.setCell ?_ (by first | omega | (simp; omega) | (simp; done)) _ | (refine New.trans ?_ (by assumption)))), by simp [go_sem], fun j hj => absurd hj (by omega)⟩
  case round =>
    obtain ⟨k, hk, rfl, hnw, hb, hpre⟩ := hrel
    have NW := Lib.hid hnw; clear hnw
    have HP := Lib.hid hpre; clear hpre
    by_cases hlt : k < m'
    · obtain ⟨b1, o1, rfl, g1, _⟩ := (HA.out.new NW.out).at hlt
      obtain ⟨b2, o2, rfl, g2, _⟩ := (HB.out.new NW.out).at hlt
      obtain ⟨x, hx⟩ : ∃ x, x = H[k]?.getD 0 := ⟨_, rfl⟩
      obtain ⟨y, hy⟩ : ∃ y, y = K[k]?.getD 0 := ⟨_, rfl⟩
      rw [← hx] at g1
      rw [← hy] at g2
      have E := Lib.hid (And.intro hx hy); clear hx hy
      by_cases he : x = y
      · subst he
        go_wp2
        go_roundw
        case rel =>
          refine ⟨k + 1, by omega, by go_num, NW.out, hb, fun j hj => ?_⟩
          by_cases e : j = k
          · subst e; rw [← E.out.1, ← E.out.2]
          · exact HP.out j (by omega)
        case measure => simp [intOf]; omega
      · have hne : (x != y) = true := by simpa using he
        go_wp2
        go_ret
        refine ⟨ret_bool ?_, NW.out⟩
        rw [lexB_at (k := k) (by have := L1.out; omega) (by have := L1.out; omega) HP.out (by rw [← E.out.1, ← E.out.2]; exact he), ← E.out.1, ← E.out.2]
    · go_wp2
      go_ret
      refine ⟨ret_bool ?_, NW.out⟩
      exact (lexB_same L1.out.2.2 (fun j hj => HP.out j (by have := L1.out; omega))).symm

set_option maxRecDepth 100000 in
theorem veSame_same (w : World) (aa ab ba bb : Option Addr) (n m n' m' ca cb cc cd : Nat) (H K : List Int) (h1 : Ints w ab m cb H) (h2 : Ints w bb m' cd K) (hl : H.length = K.length) :
    Calls Try.prog 64 #[.agg #[.slice aa n ca, .slice ab m cb], .agg #[.slice ba n' cc, .slice bb m' cd]] w fun e w' => e = .returned (.bool (decide (H = K))) ∧ New w w' := by
  have hm1 := h1.2.2.1
  have L1 := Lib.hid (And.intro h1.1 (And.intro h2.1 hl)); clear hl
  have hmm : m' = m := by have := L1.out; omega
  subst hmm
  have HA := Lib.hid h1; clear h1
  have HB := Lib.hid h2; clear h2
  go_enter Try.func64, Try.ntmps64
  go_wp2
  go_loopw [10] (fun i wr => ∃ k : Nat, k ≤ m' ∧ i = .int .i64 k ∧ New w wr ∧ wr.cell? ⟨w.heap.size + 1, 1, none⟩ = some (.slice bb m' cd) ∧ ∀ j, j < k → H[j]?.getD 0 = K[j]?.getD 0) (fun i _ => m' - (intOf i).toNat)
  case atStart => exact ⟨0, Nat.zero_le _, rfl, (by repeat (first | with_reducible exact New.refl _ | with_reducible assumption | refine New.drewN ?_ _ | refine New.drew ?_ | refine New.alloc ?_ _ | refine New.setCell ?_ (by first | omega | (simp; omega) | (simp; done)) _ | (refine New.trans ?_ (by assumption)))), by simp [go_sem], fun j hj => absurd hj (by omega)⟩
  case round =>
    obtain ⟨k, hk, rfl, hnw, hb, hpre⟩ := hrel
    have NW := Lib.hid hnw; clear hnw
    have HP := Lib.hid hpre; clear hpre
    by_cases hlt : k < m'
    · obtain ⟨b1, o1, rfl, g1, _⟩ := (HA.out.new NW.out).at hlt
      obtain ⟨b2, o2, rfl, g2, _⟩ := (HB.out.new NW.out).at hlt
      obtain ⟨x, hx⟩ : ∃ x, x = H[k]?.getD 0 := ⟨_, rfl⟩
      obtain ⟨y, hy⟩ : ∃ y, y = K[k]?.getD 0 := ⟨_, rfl⟩
      rw [← hx] at g1
      rw [← hy] at g2
      have E := Lib.hid (And.intro hx hy); clear hx hy
      by_cases he : x = y
      · subst he
        go_wp2
        go_roundw
        case rel =>
          refine ⟨k + 1, by omega, by go_num, NW.out, hb, fun j hj => ?_⟩
          by_cases e : j = k
          · subst e; rw [← E.out.1, ← E.out.2]
          · exact HP.out j (by omega)
        case measure => simp [intOf]; omega
      · have hne : (x != y) = true := by simpa using he
        go_wp2
        go_ret
        refine ⟨ret_bool (decide_eq_false fun e => he ?_).symm, NW.out⟩
        rw [E.out.1, E.out.2, e]
    · go_wp2
      go_ret
      exact ⟨ret_bool (decide_eq_true (ext_getD L1.out.2.2 (fun j hj => HP.out j (by have := L1.out; omega)))).symm, NW.out⟩
end Go.Proofs.Ytilepckgcgdjgaa
