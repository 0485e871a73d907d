/- The program's common level: from a guess it falls to the common level, whatever the guess. -/
import Derived.Test.YtklfelbolblgfaaComI
namespace Go.Proofs.Ytklfelbolblgfaa
open Go.RowKit Go.IntWalk Go.Shelf

theorem IsUp.lvl {T : List Tk} (hT : ∀ t ∈ T, TkOk t) {p : Int × Int} (h : IsUp T p) (he : overR T (p.1 / p.2) = p) : IsLvl T p := (h.step hT).2 (by rw [he])
theorem lvl_ex {T : List Tk} (hT : ∀ t ∈ T, TkOk t) (m : Nat) : ∀ p, IsUp T p → lvMu T p ≤ m → ∃ q, IsLvl T q := by
  induction m with
  | zero =>
    intro p hp hm
    by_cases he : overR T (p.1 / p.2) = p
    · exact ⟨p, hp.lvl hT he⟩
    · have := hp.falls hT he; omega
  | succ m ih =>
    intro p hp hm
    by_cases he : overR T (p.1 / p.2) = p
    · exact ⟨p, hp.lvl hT he⟩
    · have := hp.falls hT he
      exact ih _ (over_up hT hp.floor) (by omega)
/-- The common level. -/
noncomputable def comR (T : List Tk) : Int × Int := Classical.epsilon (IsLvl T)
theorem com_lvl {T : List Tk} (h : TksOk T) : IsLvl T (comR T) := by
  refine Classical.epsilon_spec ?_
  obtain ⟨t, ht, _⟩ := lfL_mem h
  have hu := over_up h.all ⟨t, ht, (h.all t ht).f2⟩
  exact lvl_ex h.all _ _ hu (Nat.le_refl _)
theorem com_eq {T : List Tk} (h : TksOk T) {p : Int × Int} (hp : IsLvl T p) : comR T = p := (com_lvl h).unique h.all hp

theorem overR_bd {T : List Tk} (h : TksOk T) {top : Int} (hf : ∃ t ∈ T, t.2.1 ≤ top) : 0 ≤ (overR T top).1 ∧ (overR T top).1 ≤ 90000 ∧ 0 < (overR T top).2 ∧ (overR T top).2 ≤ 300 := by
  have b := over_bd h top
  have bw := watL_bd h
  have hp := overD_pos h.all hf
  have := red_le (n := overN T top) hp
  have := red_pos (n := overN T top) hp
  unfold overR
  unfold overN overD at *
  omega
theorem com_bd {T : List Tk} (h : TksOk T) : 0 ≤ (comR T).1 ∧ (comR T).1 ≤ 90000 ∧ 0 < (comR T).2 ∧ (comR T).2 ≤ 300 := by
  have hl := com_lvl h
  have hs := hl.up.step h.all
  have hu := over_up h.all hl.up.floor
  have hb := overR_bd h hl.up.floor
  -- the level over its own floors is the common level again
  have h1 := hl.le h.all (n := (overR T ((comR T).1 / (comR T).2)).1) (d := (overR T ((comR T).1 / (comR T).2)).2) hu.pos hu.ge hu.fl
  have e := cross_eq hu.pos hl.pos hu.cop hl.cop (by omega)
  have e1 := e.1
  have e2 := e.2
  omega

def rdR (w : World) (b : Nat) : Int × Int := (intOf ((w.cell? ⟨b, 0, none⟩).getD undef), intOf ((w.cell? ⟨b, 1, none⟩).getD undef))
theorem rdR_eq {w : World} {b : Nat} {x y : Int} (h0 : w.cell? ⟨b, 0, none⟩ = some (.int .i64 x)) (h1 : w.cell? ⟨b, 1, none⟩ = some (.int .i64 y)) : rdR w b = (x, y) := by
  unfold rdR; rw [h0, h1]; rfl

theorem overR_up {T : List Tk} (h : TksOk T) {top : Int} (hf : ∃ t ∈ T, t.2.1 ≤ top) : IsUp T (overR T top) := over_up h.all hf

theorem put2 {W : World} {B : Nat} {x y u v : Value} {o : Obj} (h0 : W.cell? ⟨B, 0, none⟩ = some u) (h1 : W.cell? ⟨B, 1, none⟩ = some v) (f0 : W.frozen? ⟨B, 0, none⟩ = false) (f1 : W.frozen? ⟨B, 1, none⟩ = false) :
    let W' := ((W.setCell ⟨B, 0, none⟩ x).setCell ⟨B, 1, none⟩ y).alloc o
    W'.cell? ⟨B, 0, none⟩ = some x ∧ W'.cell? ⟨B, 1, none⟩ = some y ∧ W'.frozen? ⟨B, 0, none⟩ = false ∧ W'.frozen? ⟨B, 1, none⟩ = false := by
  have e : (⟨B, 0, none⟩ : Addr) ≠ ⟨B, 1, none⟩ := by simp
  have k0 : ((W.setCell ⟨B, 0, none⟩ x).setCell ⟨B, 1, none⟩ y).cell? ⟨B, 0, none⟩ = some x := (set_other (Ne.symm e)).trans (set_same h0)
  have k1 : ((W.setCell ⟨B, 0, none⟩ x).setCell ⟨B, 1, none⟩ y).cell? ⟨B, 1, none⟩ = some y := set_same ((set_other e).trans h1)
  refine ⟨World.cell_kept k0, World.cell_kept k1, ?_, ?_⟩
  · exact ((New.refl _).alloc _).frz k0 (by simpa using f0)
  · exact ((New.refl _).alloc _).frz k1 (by simpa using f1)
end Go.Proofs.Ytklfelbolblgfaa
