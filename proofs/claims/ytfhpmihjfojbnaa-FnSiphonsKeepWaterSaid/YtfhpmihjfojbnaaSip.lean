/- Siphons: what a tick comes to, on numbers. -/
import Derived.Test.YtfhpmihjfojbnaaHelp
namespace Go.Proofs.Ytfhpmihjfojbnaa
open Go.RowKit

abbrev sipV (a b c d : Int) : Value := .agg #[.int .i64 a, .int .i64 b, .int .i64 c, .int .i64 d]
abbrev levV (h : Int) (r : Bool) : Value := .agg #[.int .i64 h, .bool r]

def SipOk (a b c d : Int) : Prop := (1 ≤ a ∧ a ≤ 60) ∧ (0 ≤ b ∧ b < c ∧ c ≤ a) ∧ 1 ≤ d ∧ d ≤ 60
instance (a b c d : Int) : Decidable (SipOk a b c d) := by unfold SipOk; infer_instance
def sipB (a b c d : Int) : Bool := decide (SipOk a b c d)
theorem sipB_iff {a b c d : Int} : sipB a b c d = true ↔ SipOk a b c d := by simp [sipB]
theorem sipB_false {a b c d : Int} : sipB a b c d = false ↔ ¬ SipOk a b c d := by simp [sipB]
def levB (a b c d h : Int) : Bool := sipB a b c d && inB 0 a h
theorem levB_iff {a b c d h : Int} : levB a b c d h = true ↔ SipOk a b c d ∧ 0 ≤ h ∧ h ≤ a := by simp [levB, sipB_iff, inB_iff]
def askB (a b c d h x : Int) : Bool := levB a b c d h && inB 0 60 x
theorem askB_iff {a b c d h x : Int} : askB a b c d h x = true ↔ (SipOk a b c d ∧ 0 ≤ h ∧ h ≤ a) ∧ 0 ≤ x ∧ x ≤ 60 := by simp [askB, levB_iff, inB_iff]

/-- What it holds with the inflow; what is spilt; whether it runs; what runs out; what it holds then; whether it runs on. -/
def tkG (a h x : Int) : Int := min (h + x) a
def tkS (a h x : Int) : Int := max (h + x - a) 0
def tkB (a c h x : Int) (r : Bool) : Bool := r || decide (c ≤ tkG a h x)
def tkO (a b c d h x : Int) (r : Bool) : Int := if tkB a c h x r = true then min d (max (tkG a h x - b) 0) else 0
def tkH (a b c d h x : Int) (r : Bool) : Int := tkG a h x - tkO a b c d h x r
def tkR (a b c d h x : Int) (r : Bool) : Bool := tkB a c h x r && decide (b < tkH a b c d h x r)
theorem tkO_bd (a b c d h x : Int) (r : Bool) (hs : SipOk a b c d) (h0 : 0 ≤ h) (x0 : 0 ≤ x) : 0 ≤ tkO a b c d h x r ∧ tkO a b c d h x r ≤ 60 ∧ tkO a b c d h x r ≤ tkG a h x := by
  unfold SipOk at hs
  unfold tkO tkG
  split <;> omega
theorem tkH_bd (a b c d h x : Int) (r : Bool) (hs : SipOk a b c d) (h0 : 0 ≤ h) (x0 : 0 ≤ x) : 0 ≤ tkH a b c d h x r ∧ tkH a b c d h x r ≤ a := by
  have q := tkO_bd a b c d h x r hs h0 x0
  unfold tkH
  unfold tkG at q ⊢
  omega
theorem tkS_bd (a h x : Int) (h1 : h ≤ a) (x1 : x ≤ 60) : 0 ≤ tkS a h x ∧ tkS a h x ≤ 60 := by
  unfold tkS
  omega
theorem tk_run (a b c d u x : Int) (r : Bool) {o s H J : Int} (hB : r = true ∨ c ≤ min (u + x) a) (ho : o = min d (max (min (u + x) a - b) 0)) (hH : H = min (u + x) a - o) (hJ : J = H) (hs : s = max (u + x - a) 0) :
    (H = tkH a b c d u x r ∧ decide (b < J) = tkR a b c d u x r) ∧ o = tkO a b c d u x r ∧ s = tkS a u x := by
  have e : tkB a c u x r = true := by
    unfold tkB tkG
    rcases hB with rfl | h
    · rfl
    · rw [decide_eq_true h, Bool.or_true]
  have e1 : tkO a b c d u x r = o := by unfold tkO; rw [if_pos e, ho]; rfl
  have e2 : tkH a b c d u x r = H := by unfold tkH; rw [e1, hH]; rfl
  refine ⟨⟨e2.symm, ?_⟩, e1.symm, hs⟩
  unfold tkR
  rw [e, e2, hJ, Bool.true_and]
theorem tk_idle (a b c d u x : Int) (r : Bool) {s H : Int} (hr : r = false) (hB : min (u + x) a < c) (hH : H = min (u + x) a) (hs : s = max (u + x - a) 0) :
    (H = tkH a b c d u x r ∧ r = tkR a b c d u x r) ∧ 0 = tkO a b c d u x r ∧ s = tkS a u x := by
  have e : tkB a c u x r = false := by
    unfold tkB tkG
    rw [hr, decide_eq_false (by omega), Bool.or_false]
  have e1 : tkO a b c d u x r = 0 := by unfold tkO; rw [if_neg (by rw [e]; decide)]
  refine ⟨⟨?_, ?_⟩, e1.symm, hs⟩
  · unfold tkH; rw [e1, hH]; unfold tkG; omega
  · unfold tkR; rw [e, hr]; rfl
def tiH (a b c d u x : Int) (r : Bool) : Int := if askB a b c d u x = true then tkH a b c d u x r else 0
def tiR (a b c d u x : Int) (r : Bool) : Bool := if askB a b c d u x = true then tkR a b c d u x r else false
def tiO (a b c d u x : Int) (r : Bool) : Int := if askB a b c d u x = true then tkO a b c d u x r else 0
def tiS (a b c d u x : Int) : Int := if askB a b c d u x = true then tkS a u x else 0
def capM (a b c d : Int) : Int := if sipB a b c d = true then c - b else 0
def steadyB (a b c d x : Int) : Bool := sipB a b c d && inB 0 60 x
theorem steadyB_iff {a b c d x : Int} : steadyB a b c d x = true ↔ SipOk a b c d ∧ 0 ≤ x ∧ x ≤ 60 := by simp [steadyB, sipB_iff, inB_iff]
def firstB (a b c d x : Int) : Bool := steadyB a b c d x && !(x == 0)
def firstM (a b c d x : Int) : Int := if firstB a b c d x = true then (c + x - 1) / x else 0
/-- A box of two cells of the call's own. -/
def CutBox (W0 : World) (x y p : Value) (W : World) : Prop :=
  ∃ B, p = .pointer (some ⟨B, 0, none⟩) ∧ New W0 W ∧ W0.heap.size ≤ B ∧ B < W.heap.size ∧ W.cell? ⟨B, 0, none⟩ = some x ∧ W.cell? ⟨B, 1, none⟩ = some y
theorem CutBox.behind {W0 W : World} {x y : Value} {t : TypeId} (h : New W0 W) : CutBox W0 x y (.pointer (some ⟨W.heap.size, 0, none⟩)) (W.alloc (.cells #[x, y] t)) :=
  ⟨_, rfl, h.alloc _, h.size, by simp, by simp, by simp⟩
theorem CutBox.put {W0 W : World} {x y a b : Value} {B : Nat} (h : New W0 W) (hB : W0.heap.size ≤ B) (hB' : B < W.heap.size) (k0 : W.cell? ⟨B, 0, none⟩ = some a) (k1 : W.cell? ⟨B, 1, none⟩ = some b) :
    CutBox W0 x y (.pointer (some ⟨B, 0, none⟩)) ((W.setCell ⟨B, 0, none⟩ x).setCell ⟨B, 1, none⟩ y) :=
  ⟨_, rfl, (h.setCell hB _).setCell hB _, hB, by simpa using hB', by rw [set_other (by simp)]; exact set_same k0, by refine set_same (u := b) ?_; rw [set_other (by simp)]; exact k1⟩
end Go.Proofs.Ytfhpmihjfojbnaa
