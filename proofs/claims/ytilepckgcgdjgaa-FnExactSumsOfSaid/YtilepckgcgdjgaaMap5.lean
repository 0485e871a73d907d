/- Maps from arrays of five to bools, made by a call. -/
import Derived.Test.YtilepckgcgdjgaaImpl1
import Derived.Test.YtilepckgcgdjgaaOpen
import Derived.Maps.OwnOps
import Derived.Maps.Views
import Derived.WideKeyArr
namespace Go.Proofs.Ytilepckgcgdjgaa
open Go.RowKit Go.Maps

theorem holdArr : WideMaps.ArrKey Try.prog 67 3 5 := ⟨Try.underlying67, by kernel_rfl, by kernel_rfl, by kernel_rfl⟩
theorem holdLaw : Keyed Try.prog 67 := Keyed.of_law holdArr.law
theorem sizeTypes : ∃ m, Try.prog.types.size = m + 2 := ⟨Try.prog.types.size - 2, by
  have : 1 < Try.prog.types.size := of_decide_eq_true (by kernel_rfl)
  omega⟩
theorem lits_int (d : Nat) (n : Int) (hw : (Lit.int .i64 n).wf = true) : Try.prog.keyLits (d + 1) 3 [.int .i64 n] = some [.int .i64 n] := by
  unfold Program.keyLits
  rw [Try.underlying3]
  simp [hw]
theorem keyOf_hold (A : List Int) (h : ∀ k, k < 5 → 0 ≤ A[k]?.getD 0 ∧ A[k]?.getD 0 ≤ 1000) : ∃ l, keyOf Try.prog 67 (holdV A) = some l := by
  obtain ⟨m, hm⟩ := sizeTypes
  have wf : ∀ k, k < 5 → (Lit.int .i64 (A[k]?.getD 0)).wf = true := fun k hk => WalkArith.wf_i64 (by have := h k hk; omega)
  have hk := holdArr.keyType ⟨m + 1, hm⟩
  have hf : (holdV A).formed Try.prog 67 = true := by simp [Value.formed, Try.underlying67, holdArr.size]
  have hl : Try.prog.keyLits (Try.prog.types.size + 1) 67 (holdV A).cells.toList = some [.int .i64 (A[0]?.getD 0), .int .i64 (A[1]?.getD 0), .int .i64 (A[2]?.getD 0), .int .i64 (A[3]?.getD 0), .int .i64 (A[4]?.getD 0)] := by
    rw [hm]
    unfold Program.keyLits
    rw [Try.underlying67]
    simp only [Value.cells, holdArr.size, holdArr.one, Nat.mul_one]
    simp [List.range_succ, lits_int, wf 0 (by omega), wf 1 (by omega), wf 2 (by omega), wf 3 (by omega), wf 4 (by omega)]
  unfold keyOf
  rw [Try.underlying67]
  simp only [hk, hf, Bool.and_self, if_true, hl, Option.map_some]
  exact ⟨_, rfl⟩

theorem plainElem_bool_inv {H : Type} {P : Program} {e : TypeId} (he : P.underlying e = some .bool) {v : Value} {z : DataW H × List MemPlace} (h : plainElem P e v = some z) : ∃ x, v = .bool x ∧ z = (.lit (.bool x), []) := by
  unfold plainElem at h
  rw [he] at h
  cases v <;> simp at h
  subst h
  exact ⟨_, rfl, rfl⟩

/-- A look-up of a bool in a map of the call's own. -/
theorem wpList_lookup_own_bool {H : Type} {P : Program} (w : World) {ops : Array Oper} {rest : List Oper} {o : Oper} {a : Act} {Q : Exit → Act → World → Prop}
    (hg : o.guard = none) (m x : Operand) (t : TypeId) (hop : o.op = Op.lookup t m x false)
    (k e : TypeId) (K : Keyed P k) (ht : P.underlying t = some (.map k e)) (he : P.underlying e = some .bool) (hz : (zeroValue e).run P w = .ok (.bool false) w) (b n : Nat) (D : DataW H)
    (hm : a.eval m = .map (some b)) (hown : w.ownsMap P k (plainElem P e) b n D) (key : Value) (kl : Lit) (hx : a.eval x = key) (hkey : keyOf P k key = some kl)
    (hK : ∀ c : Bool, D.atKey kl (.lit (.bool false)) = .lit (.bool c) → wpList P ops Q rest (a.put o.dst (.bool c)) w) :
    wpList P ops Q (o :: rest) a w := by
  refine wpList_plain hg fun K' hK' => ?_
  obtain ⟨v, ps, hrun, hv⟩ := hown.lookup K ht hz (plainElem_bool he false) hkey
  obtain ⟨c, rfl, hc⟩ := plainElem_bool_inv he hv
  simp only [Prod.mk.injEq] at hc
  unfold Oper.wp
  simp [execOp, hop, hm, hx, hrun, Result.andThen]
  exact hK' _ _ (hK c hc.1)

/-- Whether two lists fill the same array. -/
def eq5 (X A : List Int) : Bool := decide (X[0]?.getD 0 = A[0]?.getD 0 ∧ X[1]?.getD 0 = A[1]?.getD 0 ∧ X[2]?.getD 0 = A[2]?.getD 0 ∧ X[3]?.getD 0 = A[3]?.getD 0 ∧ X[4]?.getD 0 = A[4]?.getD 0)
theorem eq5_iff {X A : List Int} : eq5 X A = true ↔ holdV X = holdV A := by simp [eq5]
theorem eq5_list {X A : List Int} (hl : X.length = A.length) (h5 : X.length ≤ 5) : eq5 X A = decide (X = A) := by
  rw [Bool.eq_iff_iff, decide_eq_true_eq]
  constructor
  · intro h
    simp only [eq5, decide_eq_true_eq] at h
    obtain ⟨h0, h1, h2, h3, h4⟩ := h
    apply ext_getD hl
    intro j hj
    match j, (show j < 5 by omega) with
    | 0, _ => exact h0
    | 1, _ => exact h1
    | 2, _ => exact h2
    | 3, _ => exact h3
    | 4, _ => exact h4
  · intro h; subst h; simp [eq5]
/-- The set as a map: what stands at each array. -/
def SetOf (D : DataW Unit) (f : List Int → Bool) : Prop := IsMap D ∧ ∀ A l, keyOf Try.prog 67 (holdV A) = some l → D.atKey l (.lit (.bool false)) = .lit (.bool (f A))
theorem SetOf.put {D : DataW Unit} {f : List Int → Bool} (h : SetOf D f) {X : List Int} {l : Lit} (hk : keyOf Try.prog 67 (holdV X) = some l) : SetOf (D.put l (.lit (.bool true))) (fun A => f A || eq5 X A) := by
  refine ⟨?_, fun A lu hu => ?_⟩
  · obtain ⟨es, rfl⟩ := h.1
    exact ⟨_, rfl⟩
  · by_cases e : lu = l
    · subst e
      rw [atKey_put_same h.1 (holdLaw.key hk)]
      have := eq5_iff.2 (holdLaw.inj hk hu)
      simp [this]
    · rw [atKey_put_other e, h.2 A lu hu]
      have : eq5 X A = false := by
        rw [← Bool.not_eq_true, eq5_iff]
        intro h2
        rw [h2] at hk
        rw [hk] at hu
        cases hu
        exact e rfl
      simp [this]
end Go.Proofs.Ytilepckgcgdjgaa
