/- The program's functions over passDrops. -/
import Derived.Test.YtaonebglbcgghaaPassD
import Derived.Deep.RegionWith
namespace Go.Proofs.Ytaonebglbcgghaa
open Go.RowKit

theorem made_own (w : World) (n : Nat) (hn : n ≤ 9223372036854775807) : Own (w.alloc (.cells (List.replicate n (Value.int .i64 0)).toArray 3)) w.heap.size (w.heap.size + 1) (some ⟨w.heap.size, 0, none⟩) n n (zeros n) :=
  ⟨(zeros_length n).symm, Nat.le_refl _, hn, .inr ⟨w.heap.size, fun j => .int .i64 ((zeros n)[j]?.getD 0), rfl, Nat.le_refl _, by omega, ⟨_, heap_alloc_new _ _, by simp, fun i hi => by simp only [zeros_get]; simp [hi]⟩, fun j _ => rfl⟩⟩
theorem Own.below {w w' : World} {lo hi B : Nat} {ao : Option Addr} {n cap : Nat} {l : List Int} (h : Own w lo hi ao n cap l) (k : Below B w w') (hB : hi ≤ B) : Own w' lo hi ao n cap l :=
  h.turned fun b hn hb _ => k.block b (by have := h.bounds hn hb; omega)
theorem Ints.blk {w : World} {ao : Option Addr} {n cap : Nat} {l : List Int} (h : Ints w ao n cap l) (hn : n ≠ 0) {b : Nat} (hb : blkOf ao = some b) : b < w.heap.size := by
  obtain ⟨b', o, e, hc, hlt⟩ := h.at (j := 0) (by omega)
  subst e
  simp [blkOf] at hb
  omega

theorem hafM_no' {c : List Int} {x : Int} (h : hafB c x = false) : hafM c x = [] := by unfold hafM; rw [if_neg (by rw [h]; decide)]
theorem tafM_no' {c : List Int} {x : Int} (h : hafB c x = false) : tafM c x = [] := by unfold tafM; rw [if_neg (by rw [h]; decide)]
theorem addM_no' {c h : List Int} {x : Int} (e : addB c h x = false) : addM c h x = [] := by unfold addM; rw [if_neg (by rw [e]; decide)]
theorem backM_no' {c h : List Int} {x : Int} (e : addB c h x = false) : backM c h x = [] := by unfold backM; rw [if_neg (by rw [e]; decide)]

/-- The tips told so far. -/
def tipsUp (c : List Int) (x : Int) (k : Nat) : List Int := (List.range c.length).map fun j => if j < k then carK c (zeros c.length) x (j + 1) else 0
theorem tipsUp_length (c : List Int) (x : Int) (k : Nat) : (tipsUp c x k).length = c.length := by simp [tipsUp]
theorem tipsUp_get (c : List Int) (x : Int) (k : Nat) {j : Nat} (hj : j < c.length) : (tipsUp c x k)[j]?.getD 0 = if j < k then carK c (zeros c.length) x (j + 1) else 0 := by simp [tipsUp, hj]
theorem tipsUp_zero (c : List Int) (x : Int) : tipsUp c x 0 = zeros c.length := by
  refine ext_getD (by rw [tipsUp_length, zeros_length]) fun j hj => ?_
  rw [tipsUp_length] at hj
  rw [tipsUp_get _ _ _ hj, zeros_get, if_neg (by omega)]
theorem tipsUp_succ (c : List Int) (x : Int) (k : Nat) : tipsUp c x (k + 1) = (tipsUp c x k).set k (carK c (zeros c.length) x (k + 1)) := by
  refine ext_getD (by rw [List.length_set, tipsUp_length, tipsUp_length]) fun j hj => ?_
  rw [tipsUp_length] at hj
  rw [tipsUp_get _ _ _ hj, List.getElem?_set]
  by_cases e : k = j
  · subst e
    rw [if_pos (by omega), if_pos rfl, if_pos (by rw [tipsUp_length]; exact hj)]; rfl
  · rw [if_neg e, tipsUp_get _ _ _ hj]
    by_cases h : j < k
    · rw [if_pos h, if_pos (by omega)]
    · rw [if_neg h, if_neg (by omega)]
theorem lead_stop {p : Nat → Bool} {n : Nat} (h : lead p n < n) : p (lead p n) = false := by
  induction n with
  | zero => omega
  | succ n ih =>
    have hl := lead_le p n
    unfold lead at h ⊢
    by_cases hh : lead p n = n ∧ p n = true
    · rw [if_pos hh] at h; omega
    · rw [if_neg hh]
      by_cases e : lead p n = n
      · rw [e]
        by_cases e2 : p n = true
        · exact absurd ⟨e, e2⟩ hh
        · simpa using e2
      · exact ih (by omega)
theorem tipsUp_lead {c : List Int} {x : Int} (hc : CapsOk c) : tipsUp c x (lead (fun j => carK c (zeros c.length) x (j + 1) != 0) c.length) = tipTo c (zeros c.length) x c.length := by
  refine ext_getD (by rw [tipsUp_length, tipTo_length]) fun j hj => ?_
  rw [tipsUp_length] at hj
  rw [tipsUp_get _ _ _ hj, tipTo_get _ _ _ hj]
  split
  · rfl
  · rename_i hh
    have hlt : lead (fun j => carK c (zeros c.length) x (j + 1) != 0) c.length < c.length := by omega
    have h0 := lead_stop hlt
    have h1 : carK c (zeros c.length) x (lead (fun j => carK c (zeros c.length) x (j + 1) != 0) c.length + 1) = 0 := by simpa using h0
    exact (carK_none hc (zeros_ok hc) h1 (j := j + 1) (by omega) (by omega)).symm
end Go.Proofs.Ytaonebglbcgghaa
