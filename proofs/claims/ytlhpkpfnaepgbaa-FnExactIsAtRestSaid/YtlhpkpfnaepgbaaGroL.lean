/- GroupsOf: the model's function. -/
import Derived.Test.YtlhpkpfnaepgbaaGroT
namespace Go.Proofs.Ytlhpkpfnaepgbaa
open Go.RowKit Go.IntWalk

set_option maxRecDepth 100000 in
theorem leJoined_any (w : World) (aa : Option Addr) (n ca : Nat) (T : List Tk) (ab : Option Addr) (m cb : Nat) (L : List (List Int)) (ha : Tanks w aa n ca T) (hb : IntSS w ab m cb L) :
    Calls Try.prog 25 #[.slice aa n ca, .slice ab m cb] w fun e w' => e = .returned (.bool (gsB T L)) ∧ New w w' := by
  have hn := ha.1
  have HA := Lib.hid ha; clear ha
  have HB := Lib.hid hb; clear hb
  cases h : tksB T
  case false =>
    have R := Lib.hid (show gsB T L = false by unfold gsB; rw [h]; rfl)
    have HT := Lib.hid h; clear h hn
    go_enter Try.func25, Try.ntmps25
    go_wp2_with fail
    refine (leTanks_any _ _ _ _ T HA.out).mono ?_
    rintro e w1 ⟨rfl, n1⟩
    rw [HT.out]
    have N1 := Lib.hid n1; clear n1
    go_wp2
    go_ret
    exact ⟨ret_bool R.out.symm, N1.out⟩
  case true =>
    have hn6 : n ≤ 6 := by have := (tksB_iff.1 h).l6; omega
    have R := Lib.hid (show gsB T L = jnB n L by unfold gsB; rw [h, hn]; rfl)
    have HT := Lib.hid h; clear h hn
    go_enter Try.func25, Try.ntmps25
    go_wp2_with fail
    refine (leTanks_any _ _ _ _ T HA.out).mono ?_
    rintro e w1 ⟨rfl, n1⟩
    rw [HT.out]
    have N1 := Lib.hid n1; clear n1
    go_wp2_with fail
    refine (leJoins_any _ _ _ _ n L (HB.out.new N1.out) hn6).mono ?_
    rintro e w2 ⟨rfl, n2⟩
    have N2 := Lib.hid (N1.out.trans n2); clear n2
    go_wp2
    go_ret
    exact ⟨ret_bool R.out.symm, N2.out⟩

set_option maxRecDepth 100000 in
theorem sGroupsOf_any (w : World) (aa : Option Addr) (n ca : Nat) (T : List Tk) (ab : Option Addr) (m cb : Nat) (L : List (List Int)) (ha : Tanks w aa n ca T) (hb : IntSS w ab m cb L) :
    Calls Try.prog 8 #[.slice aa n ca, .slice ab m cb] w fun e w' => ∃ oa on oc, e = .returned (.tuple #[.slice oa on oc, .bool (gsB T L)]) ∧ OwnSS w' w.heap.size w'.heap.size oa on oc (gsM T L) ∧ New w w' := by
  have hn := ha.1
  have HA := Lib.hid ha; clear ha
  have HB := Lib.hid hb; clear hb
  cases h : gsB T L
  case false =>
    rw [gsM_no h]
    have HG := Lib.hid h; clear h hn
    go_enter Try.func8, Try.ntmps8
    go_wp2_with fail
    refine (leJoined_any _ _ _ _ T _ _ _ L HA.out HB.out).mono ?_
    rintro e w1 ⟨rfl, n1⟩
    rw [HG.out]
    have N1 := Lib.hid n1; clear n1
    go_wp2
    go_ret2
    exact ⟨none, 0, 0, rfl, OwnSS.nil _ _ _, N1.out⟩
  case true =>
    rw [gsM_yes h]
    have h2 : tksB T = true ∧ jnB T.length L = true := by unfold gsB at h; rwa [Bool.and_eq_true] at h
    have hn6 : n ≤ 6 := by have := (tksB_iff.1 h2.1).l6; omega
    have hj := h2.2
    rw [← hn] at hj ⊢
    have HG := Lib.hid h; clear h hn h2
    have HJ := Lib.hid hj; clear hj
    go_enter Try.func8, Try.ntmps8
    go_wp2_with fail
    refine (leJoined_any _ _ _ _ T _ _ _ L HA.out HB.out).mono ?_
    rintro e w1 ⟨rfl, n1⟩
    rw [HG.out]
    have N1 := Lib.hid n1; clear n1
    go_wp2_with fail
    refine (leGroups_any _ n _ _ _ L (HB.out.new N1.out) HJ.out hn6).mono ?_
    rintro e w2 ⟨oa, on, oc, rfl, o2, n2⟩
    have O2 := Lib.hid o2; clear o2
    have z := N1.out.size
    have N2 := Lib.hid (N1.out.trans n2); clear n2
    go_wp2
    go_ret2
    exact ⟨_, _, _, rfl, O2.out.mono z (Nat.le_refl _), N2.out⟩

theorem sum_le_mul {L : List (List Int)} {b : Nat} (h : ∀ l ∈ L, l.length ≤ b) : ∀ (k : Nat), k ≤ L.length → sumTo L k ≤ k * b := by
  intro k
  induction k with
  | zero => intro _; rw [sumTo_zero]; omega
  | succ k ih =>
    intro hk
    rw [sumTo_succ L k (by omega), Nat.succ_mul]
    have a := ih (by omega)
    have b' : (L[k]?.getD []).length ≤ b := by
      rw [List.getElem?_eq_getElem (show k < L.length by omega)]
      exact h _ (List.getElem_mem _)
    omega
theorem gsM_small (T : List Tk) (L : List (List Int)) : totalSS (gsM T L) ≤ 1048576 := by
  cases h : gsB T L
  · rw [gsM_no h]; decide
  · rw [gsM_yes h]
    have h2 : tksB T = true := by unfold gsB at h; rw [Bool.and_eq_true] at h; exact h.1
    have hn6 := (tksB_iff.1 h2).l6
    have q := sum_le_mul (L := grsTo T.length (leadP (jP L)) T.length) (b := T.length) (fun l hl => by
      unfold grsTo at hl
      obtain ⟨a, _, rfl⟩ := List.mem_map.1 hl
      exact grpI_len _ _ _) _ (Nat.le_refl _)
    have r := grsTo_len T.length (leadP (jP L)) T.length
    have e : (grsTo T.length (leadP (jP L)) T.length).length * T.length ≤ 6 * 6 := Nat.mul_le_mul (by omega) hn6
    unfold totalSS
    omega
end Go.Proofs.Ytlhpkpfnaepgbaa
