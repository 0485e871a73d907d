/- Rain measured: what the law says of the numbers. -/
import Derived.Test.YtaonebglbcgghaaGauge
namespace Go.Proofs.Ytaonebglbcgghaa
open Go.RowKit

theorem lead_before {p : Nat → Bool} {n j : Nat} (h : j < lead p n) : p j = true := by
  induction n with
  | zero => unfold lead at h; omega
  | succ n ih =>
    unfold lead at h
    split at h
    · rename_i hh
      by_cases e : j = n
      · exact e ▸ hh.2
      · exact lead_all hh.1 j (by omega)
    · exact ih h
theorem lead_at {p : Nat → Bool} {n : Nat} (h : lead p n < n) : p (lead p n) = false := by
  induction n with
  | zero => omega
  | succ n ih =>
    by_cases hh : lead p n = n ∧ p n = true
    · unfold lead at h
      rw [if_pos hh] at h; omega
    · have e : lead p (n + 1) = lead p n := by
        conv => lhs; unfold lead
        rw [if_neg hh]
      rw [e]
      by_cases hl : lead p n = n
      · have q : p n = false := by
          cases hp : p n with
          | true => exact absurd ⟨hl, hp⟩ hh
          | false => rfl
        rw [hl]; exact q
      · exact ih (by have := lead_le p n; omega)
theorem tgK_le {r : Int} {xs : List Int} (h : RainOk r xs) {k : Nat} (hk : k < xs.length) : 0 ≤ tgK r xs k ∧ tgK r xs k ≤ 10000 := by
  have q := gaK_bd h k (by omega)
  have q1 := h.2.2 k hk
  have q0 := h.1
  refine ⟨(tgK_bd h hk).1, ?_⟩
  unfold tgK
  have e : (gaK r xs k + xs[k]?.getD 0) / r < 10001 := by
    rw [Int.ediv_lt_iff_lt_mul (by omega)]
    have : r * 10000 ≥ 10000 := by omega
    omega
  omega
theorem gauge_sum {r : Int} {xs : List Int} (h : RainOk r xs) (k : Nat) (hk : k ≤ xs.length) : sumK (tgTo r xs xs.length) k * r + gaK r xs k = sumK xs k := by
  induction k with
  | zero => simp [sumK, gaK]
  | succ k ih =>
    have e := ih (by omega)
    have e1 : sumK (tgTo r xs xs.length) (k + 1) = sumK (tgTo r xs xs.length) k + tgK r xs k := by
      show _ + (tgTo r xs xs.length)[k]?.getD 0 = _
      rw [tgTo_get r xs (by omega)]
    have e2 : sumK xs (k + 1) = sumK xs k + xs[k]?.getD 0 := rfl
    have e3 : gaK r xs (k + 1) = (gaK r xs k + xs[k]?.getD 0) % r := rfl
    have e4 : tgK r xs k = (gaK r xs k + xs[k]?.getD 0) / r := rfl
    rw [e1, e2, e3, e4]
    have := Int.emod_add_mul_ediv (gaK r xs k + xs[k]?.getD 0) r
    grind
theorem rain_tips {r : Int} {xs : List Int} (h : rainB r xs = true) : (tipsM r xs).length = xs.length ∧ rainB r (tipsM r xs) = true ∧ sumM (tipsM r xs) * r + restM r xs = sumM xs ∧ (0 ≤ restM r xs ∧ restM r xs < r) ∧ rainB 7 xs = true := by
  have ok := rainB_iff.1 h
  have e : tipsM r xs = tgTo r xs xs.length := by unfold tipsM; rw [if_pos h]
  have e2 : restM r xs = gaK r xs xs.length := by unfold restM; rw [if_pos h]
  have el : (tgTo r xs xs.length).length = xs.length := tgTo_length _ _ _
  rw [e, e2]
  refine ⟨el, rainB_iff.2 ⟨ok.1, by rw [el]; exact ok.2.1, fun j hj => ?_⟩, ?_, gaK_bd ok _ (Nat.le_refl _), rainB_iff.2 ⟨by omega, ok.2⟩⟩
  · rw [el] at hj
    rw [tgTo_get r xs hj]; exact tgK_le ok hj
  · unfold sumM
    rw [el]; exact gauge_sum ok _ (Nat.le_refl _)
theorem sumK_zero {l : List Int} {k : Nat} (h : ∀ j, j < k → l[j]?.getD 0 = 0) : sumK l k = 0 := by
  induction k with
  | zero => rfl
  | succ k ih =>
    show sumK l k + l[k]?.getD 0 = 0
    rw [ih (fun j hj => h j (by omega)), h k (by omega)]; rfl
theorem sumK_mono {r : Int} {xs : List Int} (h : RainOk r xs) {k m : Nat} (hm : m ≤ xs.length) (hk : k ≤ m) : sumK xs k ≤ sumK xs m := by
  induction m with
  | zero => obtain rfl : k = 0 := by omega
            exact Int.le_refl _
  | succ m ih =>
    by_cases e : k = m + 1
    · subst e; exact Int.le_refl _
    · have := ih (by omega) (by omega)
      have := h.2.2 m (by omega)
      show _ ≤ sumK xs m + xs[m]?.getD 0
      omega
theorem sumK_take (l : List Int) {k j : Nat} (hk : k ≤ j) (hj : j ≤ l.length) : sumK (l.take j) k = sumK l k := by
  induction k with
  | zero => rfl
  | succ k ih =>
    show sumK (l.take j) k + (l.take j)[k]?.getD 0 = sumK l k + l[k]?.getD 0
    rw [ih (by omega), List.getElem?_take_of_lt (by omega)]
/-- The first day on which it tips. -/
theorem fir_any {r : Int} {xs : List Int} (h : rainB r xs = true) : (firB r xs = decide (0 < sumM (tipsM r xs))) ∧
    (firB r xs = true → firI r xs = (dryN r xs : Int) + 1 ∧ dryN r xs < xs.length ∧ ¬ (tipsM r xs)[dryN r xs]?.getD 0 = 0 ∧ sumK (tipsM r xs) (dryN r xs) = 0) := by
  have ok := rainB_iff.1 h
  have rt := rain_tips h
  have ok2 := rainB_iff.1 rt.2.1
  have e : tipsM r xs = tgTo r xs xs.length := by unfold tipsM; rw [if_pos h]
  have hd := dry_tips ok
  have hle : dryN r xs ≤ xs.length := by rw [← hd]; exact lead_le _ _
  have hz : ∀ j, j < dryN r xs → (tipsM r xs)[j]?.getD 0 = 0 := by
    intro j hj
    rw [e, tgTo_get r xs (by omega)]
    rw [← hd] at hj
    have := lead_before hj
    simpa using this
  have hs : sumK (tipsM r xs) (dryN r xs) = 0 := sumK_zero hz
  by_cases hlt : dryN r xs < xs.length
  · have hn : ¬ (tipsM r xs)[dryN r xs]?.getD 0 = 0 := by
      rw [e, tgTo_get r xs hlt]
      have q := lead_at (p := fun j => tgK r xs j == 0) (n := xs.length) (by rw [hd]; exact hlt)
      rw [hd] at q
      simpa using q
    have fb : firB r xs = true := by unfold firB; rw [h, decide_eq_true hlt]; rfl
    have b := ok2.2.2 (dryN r xs) (by rw [rt.1]; exact hlt)
    have m := sumK_mono ok2 (k := dryN r xs + 1) (m := (tipsM r xs).length) (Nat.le_refl _) (by rw [rt.1]; omega)
    have e1 : sumK (tipsM r xs) (dryN r xs + 1) = sumK (tipsM r xs) (dryN r xs) + (tipsM r xs)[dryN r xs]?.getD 0 := rfl
    have pos : 0 < sumM (tipsM r xs) := by unfold sumM; omega
    refine ⟨by rw [fb, decide_eq_true pos], fun _ => ⟨by unfold firI; rw [if_pos fb], hlt, hn, hs⟩⟩
  · have hq : dryN r xs = (tipsM r xs).length := by rw [rt.1]; omega
    have fb : firB r xs = false := by unfold firB; rw [decide_eq_false hlt]; simp
    have z : sumM (tipsM r xs) = 0 := by unfold sumM; rw [← hq]; exact hs
    exact ⟨by rw [fb, z]; rfl, fun k => by rw [fb] at k; cases k⟩
theorem two_any {r : Int} {xs : List Int} (h : rainB r xs = true) : twoB r 7 (tipsM r xs) (tipsM 7 xs) = true ∧
    lowM r (tipsM r xs) ≤ sumM xs ∧ sumM xs ≤ highM r (tipsM r xs) ∧ highM r (tipsM r xs) - lowM r (tipsM r xs) = r - 1 ∧
    twoLowM r 7 (tipsM r xs) (tipsM 7 xs) ≤ sumM xs ∧ sumM xs ≤ twoHighM r 7 (tipsM r xs) (tipsM 7 xs) ∧ lowM r (tipsM r xs) ≤ twoLowM r 7 (tipsM r xs) (tipsM 7 xs) ∧ twoHighM r 7 (tipsM r xs) (tipsM 7 xs) ≤ highM r (tipsM r xs) := by
  obtain ⟨l1, o1, s1, b1, h7⟩ := rain_tips h
  obtain ⟨l2, o2, s2, b2, -⟩ := rain_tips h7
  have e1 : sumM (tipsM r xs) * r = r * sumM (tipsM r xs) := Int.mul_comm _ _
  have e2 : sumM (tipsM 7 xs) * 7 = 7 * sumM (tipsM 7 xs) := Int.mul_comm _ _
  have hl : lowM r (tipsM r xs) = r * sumM (tipsM r xs) := by unfold lowM; rw [if_pos o1]
  have hh : highM r (tipsM r xs) = r * sumM (tipsM r xs) + r - 1 := by unfold highM; rw [if_pos o1]
  have lo : twoLow r 7 (tipsM r xs) (tipsM 7 xs) = max (r * sumM (tipsM r xs)) (7 * sumM (tipsM 7 xs)) := rfl
  have hi : twoHigh r 7 (tipsM r xs) (tipsM 7 xs) = min (r * sumM (tipsM r xs) + r) (7 * sumM (tipsM 7 xs) + 7) - 1 := rfl
  have tb : twoB r 7 (tipsM r xs) (tipsM 7 xs) = true := by
    unfold twoB
    rw [o1, o2, decide_eq_true (by omega)]; rfl
  have tl : twoLowM r 7 (tipsM r xs) (tipsM 7 xs) = twoLow r 7 (tipsM r xs) (tipsM 7 xs) := by unfold twoLowM; rw [if_pos tb]
  have th : twoHighM r 7 (tipsM r xs) (tipsM 7 xs) = twoHigh r 7 (tipsM r xs) (tipsM 7 xs) := by unfold twoHighM; rw [if_pos tb]
  rw [tl, th, hl, hh, lo, hi]
  exact ⟨tb, by omega, by omega, by omega, by omega, by omega, by omega, by omega⟩
theorem two_le {a b : Int} {xs ys : List Int} (h : twoB a b xs ys = true) : ¬ twoHighM a b xs ys < twoLowM a b xs ys := by
  have h0 := h
  unfold twoB at h
  rw [Bool.and_eq_true] at h
  have := of_decide_eq_true h.2
  unfold twoLowM twoHighM
  rw [if_pos h0, if_pos h0]; omega
theorem made_any {r : Int} {xs : List Int} (h : madeB r xs = true) : rainB r xs = true ∧ rainB r (madeM r xs) = true ∧ tipsM r (madeM r xs) = xs ∧ sumM (madeM r xs) = lowM r xs := by
  have h0 := h
  have em : madeM r xs = mulTo r xs xs.length := by unfold madeM; rw [if_pos h0]
  unfold madeB at h
  rw [Bool.and_eq_true, allB_iff] at h
  obtain ⟨h1, h2⟩ := h
  have ok := rainB_iff.1 h1
  have el : (mulTo r xs xs.length).length = xs.length := mulTo_length _ _ _
  have ok2 : RainOk r (mulTo r xs xs.length) := ⟨ok.1, by rw [el]; exact ok.2.1, h2⟩
  have hr : rainB r (mulTo r xs xs.length) = true := rainB_iff.2 ok2
  have ga : ∀ k, k ≤ xs.length → gaK r (mulTo r xs xs.length) k = 0 := by
    intro k hk
    induction k with
    | zero => rfl
    | succ k ih =>
      show (gaK r (mulTo r xs xs.length) k + (mulTo r xs xs.length)[k]?.getD 0) % r = 0
      rw [ih (by omega), mulTo_get r xs (by omega), Int.zero_add, Int.mul_emod_left]
  have tg : ∀ k, k < xs.length → tgK r (mulTo r xs xs.length) k = xs[k]?.getD 0 := by
    intro k hk
    unfold tgK
    rw [ga k (by omega), mulTo_get r xs hk, Int.zero_add, Int.mul_ediv_cancel _ (by have := ok.1; omega)]
  have sm : ∀ k, k ≤ xs.length → sumK (mulTo r xs xs.length) k = r * sumK xs k := by
    intro k hk
    induction k with
    | zero => simp [sumK]
    | succ k ih =>
      show sumK (mulTo r xs xs.length) k + (mulTo r xs xs.length)[k]?.getD 0 = r * (sumK xs k + xs[k]?.getD 0)
      rw [ih (by omega), mulTo_get r xs (by omega)]
      grind
  rw [em]
  refine ⟨h1, hr, ?_, ?_⟩
  · unfold tipsM
    rw [if_pos hr, el]
    refine List.ext_getElem? fun j => ?_
    by_cases hj : j < xs.length
    · have e := tgTo_get r (mulTo r xs xs.length) hj
      rw [tg j hj] at e
      have l1 : j < (tgTo r (mulTo r xs xs.length) xs.length).length := by rw [tgTo_length]; exact hj
      rw [List.getElem?_eq_getElem l1, Option.getD_some] at e
      rw [List.getElem?_eq_getElem hj, Option.getD_some] at e
      rw [List.getElem?_eq_getElem l1, List.getElem?_eq_getElem hj, e]
    · rw [List.getElem?_eq_none (by rw [tgTo_length]; omega), List.getElem?_eq_none (by omega)]
  · unfold sumM lowM sumM
    rw [if_pos h1, el]; exact sm _ (Nat.le_refl _)
end Go.Proofs.Ytaonebglbcgghaa
