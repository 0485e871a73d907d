/- The program's least floor, its guess in single precision, and the level over some floors. -/
import Derived.Test.YtklfelbolblgfaaSumF
import Derived.Test.YtklfelbolblgfaaRows2b
import Derived.Deep.RegionHeld3
namespace Go.Proofs.Ytklfelbolblgfaa
open Go.RowKit Go.IntWalk Go.Shelf

theorem Try.infoTank : (Try.prog.info? 25).map (fun i => (i.zero, i.size, i.bytes)) = some (some (.agg #[.int .i64 0, .int .i64 0, .int .i64 0]), 3, 24) := by kernel_rfl

theorem water_enters : Enters Try.prog 63 := enters_of Try.func63 (by kernel_rfl) rfl

/-- Tanks as the chapter has them. -/
structure TksOk (T : List Tk) : Prop where
  l1 : 1 ≤ T.length
  l6 : T.length ≤ 6
  all : ∀ t ∈ T, TkOk t
theorem watL_bd {T : List Tk} (h : TksOk T) : 0 ≤ watL T ∧ watL T ≤ 60000 := by
  have := sumL_bd (g := fun t => t.2.2) (A := T) (lo := 0) (hi := 10000) (fun t ht => ⟨(h.all t ht).w1, (h.all t ht).w2⟩)
  have := h.l6
  unfold watL; omega

/-- The least floor of the first k tanks, 100 of none. -/
def lfK (T : List Tk) : Nat → Int
  | 0 => 100
  | k + 1 => min (lfK T k) (T[k]?.getD (0, 0, 0)).2.1
theorem lfK_bd {T : List Tk} (h : TksOk T) (k : Nat) (hk : k ≤ T.length) : 0 ≤ lfK T k ∧ lfK T k ≤ 100 := by
  induction k with
  | zero => simp [lfK]
  | succ k ih =>
    have h1 := ih (by omega)
    have h2 := (h.all _ (mem_get (show k < T.length by omega))).f1
    unfold lfK; omega
def lfL (T : List Tk) : Int := lfK T T.length
theorem lfK_le {T : List Tk} (k j : Nat) (hj : j < k) : lfK T k ≤ (T[j]?.getD (0, 0, 0)).2.1 := by
  induction k with
  | zero => omega
  | succ k ih =>
    unfold lfK
    by_cases e : j = k
    · subst e; omega
    · have := ih (by omega); omega
theorem lfL_le {T : List Tk} {t : Tk} (ht : t ∈ T) : lfL T ≤ t.2.1 := by
  obtain ⟨j, hj, rfl⟩ := List.getElem_of_mem ht
  have := lfK_le (T := T) T.length j hj
  rw [List.getElem?_eq_getElem hj] at this
  exact this
theorem lfK_mem {T : List Tk} (h : TksOk T) (k : Nat) (hk : k ≤ T.length) (h0 : 0 < k) : ∃ t ∈ T, t.2.1 = lfK T k := by
  induction k with
  | zero => omega
  | succ k ih =>
    have hm := mem_get (T := T) (show k < T.length by omega)
    have hf := (h.all _ hm).f2
    unfold lfK
    by_cases e : k = 0
    · subst e
      exact ⟨_, hm, by simp only [lfK]; omega⟩
    · obtain ⟨t, ht, e⟩ := ih (by omega) (by omega)
      by_cases hlt : lfK T k ≤ (T[k]?.getD (0, 0, 0)).2.1
      · exact ⟨t, ht, by omega⟩
      · exact ⟨_, hm, by omega⟩
theorem lfL_mem {T : List Tk} (h : TksOk T) : ∃ t ∈ T, t.2.1 = lfL T := lfK_mem h T.length (Nat.le_refl _) h.l1

set_option maxRecDepth 100000 in
theorem leastFloor_any (w : World) (aa : Option Addr) (n ca : Nat) (T : List Tk) (ha : Tanks w aa n ca T) (hT : TksOk T) :
    Calls Try.prog 61 #[.slice aa n ca] w fun e w' => e = .returned (.int .i64 (lfL T)) ∧ New w w' := by
  have HN := Lib.hid ha.1
  have hn : n ≤ 6 := by have := ha.1; have := hT.l6; omega
  have HA := Lib.hid ha; clear ha
  have HT := Lib.hid hT; clear hT
  go_enter Try.func61, Try.ntmps61
  go_wp2
  go_loopw [3, 8] (fun y i wr => ∃ k : Nat, k ≤ n ∧ i = .int .i64 k ∧ y = .int .i64 (lfK T k) ∧ New w wr) (fun _ i _ => n - (intOf i).toNat)
  case atStart => exact ⟨0, Nat.zero_le _, rfl, rfl, New.refl _⟩
  case round =>
    obtain ⟨k, hk, rfl, rfl, hnw⟩ := hrel
    have NW := Lib.hid hnw; clear hnw
    by_cases hlt : k < n
    · obtain ⟨b, o, rfl, g0, g1, g2⟩ := (HA.out.new NW.out).2.2.2.1 k hlt
      obtain ⟨a, ea⟩ : ∃ a, a = lfK T k := ⟨_, rfl⟩
      obtain ⟨f, ef⟩ : ∃ f, f = (T[k]?.getD (0, 0, 0)).2.1 := ⟨_, rfl⟩
      rw [← ea]
      rw [← ef] at g1
      have HE := Lib.hid (And.intro ea ef); clear ea ef
      by_cases hm : f < a
      · go_wp2
        go_roundw
        case rel => exact ⟨k + 1, by omega, by go_num, by unfold lfK; rw [← HE.out.1, ← HE.out.2, Int.min_eq_right (by omega)], New.trans NW.out (by repeat (first | with_reducible exact New.refl _ | with_reducible assumption | refine New.drewN ?_ _ | refine New.drew ?_ | refine New.alloc ?_ _ | refine New.setCell ?_ (by first | omega | (simp; omega) | (simp; done)) _ | (refine New.trans ?_ (by assumption))))⟩
        case measure => simp [intOf]; omega
      · go_wp2
        go_roundw
        case rel => exact ⟨k + 1, by omega, by go_num, by unfold lfK; rw [← HE.out.1, ← HE.out.2, Int.min_eq_left (by omega)], New.trans NW.out (by repeat (first | with_reducible exact New.refl _ | with_reducible assumption | refine New.drewN ?_ _ | refine New.drew ?_ | refine New.alloc ?_ _ | refine New.setCell ?_ (by first | omega | (simp; omega) | (simp; done)) _ | (refine New.trans ?_ (by assumption))))⟩
        case measure => simp [intOf]; omega
    · obtain rfl : k = n := by omega
      go_wp2
      go_ret
      exact ⟨ret_int (by unfold lfL; rw [HN.out]), NW.out⟩

theorem cov_take (T : List Tk) (top : Int) (k : Nat) (h : k < T.length) : cov (T.take (k + 1)) top = if (T[k]?.getD (0, 0, 0)).2.1 ≤ top then cov (T.take k) top ++ [T[k]?.getD (0, 0, 0)] else cov (T.take k) top := by
  rw [List.take_add_one, List.getElem?_eq_getElem h]
  unfold cov
  rw [List.filter_append]
  by_cases hc : T[k].2.1 ≤ top
  · simp [hc]
  · simp [hc]
theorem cov_len (T : List Tk) (top : Int) : (cov T top).length ≤ T.length := List.length_filter_le _ _
theorem cov_ok {T : List Tk} (hT : ∀ t ∈ T, TkOk t) (top : Int) : ∀ t ∈ cov T top, TkOk t := fun t ht => hT t (mem_cov.1 ht).1
theorem over_bd {T : List Tk} (h : TksOk T) (top : Int) : 0 ≤ weiL (cov T top) ∧ weiL (cov T top) ≤ 30000 ∧ 0 ≤ areaL (cov T top) ∧ areaL (cov T top) ≤ 300 := by
  have hl : (cov T top).length ≤ 6 := Nat.le_trans (cov_len _ _) h.l6
  have h1 := sumL_bd (g := fun t => t.1 * t.2.1) (A := cov T top) (lo := 0) (hi := 5000) (fun t ht => mul_bd (by have := (cov_ok h.all top t ht).a1; omega) (cov_ok h.all top t ht).a2 (cov_ok h.all top t ht).f1 (cov_ok h.all top t ht).f2)
  have h2 := sumL_bd (g := fun t => t.1) (A := cov T top) (lo := 0) (hi := 50) (fun t ht => ⟨by have := (cov_ok h.all top t ht).a1; omega, (cov_ok h.all top t ht).a2⟩)
  unfold weiL areaL; omega
end Go.Proofs.Ytklfelbolblgfaa
