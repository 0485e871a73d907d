/- A list whose first k places have been turned by f; vessels and a number that a call returns. -/
import Derived.Test.YtkonhflamnekcaaSwap1
import Derived.Test.YtkonhflamnekcaaGcdI
namespace Go.Proofs.Ytkonhflamnekcaa
open Go.RowKit

def upto (f : Int → Int) (l : List Int) (k : Nat) : List Int := l.mapIdx (fun j x => if j < k then f x else x)
theorem upto_length (f : Int → Int) (l : List Int) (k : Nat) : (upto f l k).length = l.length := by simp [upto]
theorem upto_get {f : Int → Int} (h0 : f 0 = 0) (l : List Int) (k j : Nat) : (upto f l k)[j]?.getD 0 = if j < k then f (l[j]?.getD 0) else l[j]?.getD 0 := by
  unfold upto
  rw [List.getElem?_mapIdx]
  cases h : l[j]? with
  | none => simp [h0]
  | some x => simp
theorem upto_at {f : Int → Int} (h0 : f 0 = 0) (l : List Int) (k : Nat) : (upto f l k)[k]?.getD 0 = l[k]?.getD 0 := by
  rw [upto_get h0, if_neg (Nat.lt_irrefl _)]
theorem upto_zero (f : Int → Int) (l : List Int) : upto f l 0 = l := by
  unfold upto
  apply List.ext_getElem (by simp)
  intro i h1 h2
  simp
theorem upto_all {f : Int → Int} (l : List Int) {k : Nat} (hk : l.length ≤ k) : upto f l k = l.map f := by
  unfold upto
  apply List.ext_getElem (by simp)
  intro i h1 h2
  simp at h1
  simp [show i < k by omega]
theorem upto_set {f : Int → Int} (h0 : f 0 = 0) (l : List Int) (k : Nat) (hk : k < l.length) : (upto f l k).set k (f (l[k]?.getD 0)) = upto f l (k + 1) := by
  apply ext_getD (by simp [upto_length])
  intro j hj
  rw [List.getElem?_set, upto_length]
  by_cases e : k = j
  · subst e
    rw [if_pos rfl, if_pos hk, upto_get h0, if_pos (Nat.lt_succ_self _)]
    rfl
  · rw [if_neg e, upto_get h0, upto_get h0]
    by_cases h : j < k
    · rw [if_pos h, if_pos (by omega)]
    · rw [if_neg h, if_neg (by omega)]
theorem upto_put {f : Int → Int} (h0 : f 0 = 0) {l : List Int} {k : Nat} (hk : k < l.length) {s : Int} (es : l[k]?.getD 0 = s) : (upto f l k).set k (f s) = upto f l (k + 1) := by
  rw [← es]; exact upto_set h0 l k hk
theorem map_get {f : Int → Int} (h0 : f 0 = 0) (l : List Int) (j : Nat) : (l.map f)[j]?.getD 0 = f (l[j]?.getD 0) := by
  rw [List.getElem?_map]
  cases l[j]? with
  | none => simp [h0]
  | some x => simp
theorem mul_map (l : List Int) (x : Int) : l.map (· * x) = l.map (x * ·) := by
  congr 1
  funext y
  exact Int.mul_comm y x
theorem take_one (f : Int → Int) (l : List Int) (k : Nat) (hk : k < l.length) : (l.map f).take (k + 1) = (l.map f).take k ++ [f (l[k]?.getD 0)] := by
  rw [List.take_succ_eq_append_getElem (by simpa using hk)]
  simp [List.getElem?_eq_getElem hk]

/-- Vessels and a number that a call returns, of its own make. -/
def RetWI (w : World) (S H : List Int) (d : Int) (ok : Bool) (e : Ending) (w' : World) : Prop :=
  ∃ sa n sc sb m sd, e = .returned (.tuple #[.agg #[.slice sa n sc, .slice sb m sd], .int .i64 d, .bool ok]) ∧ OwnV w' w.heap.size w'.heap.size sa n sc sb m sd S H ∧ New w w'

def leastM (S H : List Int) : List Int × List Int × Int × Bool := if goodB S H = true then (S.map (· / (cdV S H : Int)), H.map (· / (cdV S H : Int)), (cdV S H : Int), true) else ([], [], 0, false)
theorem leastM_no {S H : List Int} (h : goodB S H = false) : leastM S H = ([], [], 0, false) := by simp [leastM, h]
theorem leastM_yes {S H : List Int} (h : goodB S H = true) : leastM S H = (S.map (· / (cdV S H : Int)), H.map (· / (cdV S H : Int)), (cdV S H : Int), true) := by simp [leastM, h]
theorem leastM_small (S H : List Int) : (leastM S H).1.length ≤ 1048576 ∧ (leastM S H).2.1.length ≤ 1048576 := by
  by_cases h : goodB S H = true
  · have hg := goodB_iff.1 h
    have h1 := hg.1
    have h2 := hg.2.1
    rw [leastM_yes h]
    exact ⟨by simp; omega, by simp; omega⟩
  · rw [leastM_no (by simpa using h)]
    exact ⟨by simp, by simp⟩

def scaleB (S H : List Int) (k : Int) : Bool := goodB S H && inB 1 60 k && goodB (S.map (k * ·)) (H.map (k * ·))
def scaleM (S H : List Int) (k : Int) : List Int × List Int × Bool := if scaleB S H k = true then (S.map (k * ·), H.map (k * ·), true) else ([], [], false)
theorem scaleM_no {S H : List Int} {k : Int} (h : scaleB S H k = false) : scaleM S H k = ([], [], false) := by simp [scaleM, h]
theorem scaleM_yes {S H : List Int} {k : Int} (h : scaleB S H k = true) : scaleM S H k = (S.map (k * ·), H.map (k * ·), true) := by simp [scaleM, h]
theorem scaleM_small (S H : List Int) (k : Int) : (scaleM S H k).1.length ≤ 1048576 ∧ (scaleM S H k).2.1.length ≤ 1048576 := by
  by_cases h : scaleB S H k = true
  · have h' := h
    unfold scaleB at h'
    rw [Bool.and_eq_true, Bool.and_eq_true] at h'
    have hg := goodB_iff.1 h'.1.1
    have h1 := hg.1
    have h2 := hg.2.1
    rw [scaleM_yes h]
    exact ⟨by simp; omega, by simp; omega⟩
  · rw [scaleM_no (by simpa using h)]
    exact ⟨by simp, by simp⟩
end Go.Proofs.Ytkonhflamnekcaa
