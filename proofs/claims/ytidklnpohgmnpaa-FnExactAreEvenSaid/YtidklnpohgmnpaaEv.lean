/- Whether all shares are the same. -/
import Derived.Test.YtidklnpohgmnpaaSlI
namespace Go.Proofs.Ytidklnpohgmnpaa
open Go.RowKit Go.IntWalk

def EvOk (L : List (Int × Int)) : Prop := ∀ j, j < L.length → L[j]?.getD (0, 0) = L[0]?.getD (0, 0)
instance (L : List (Int × Int)) : Decidable (EvOk L) := by unfold EvOk; infer_instance
def evB (L : List (Int × Int)) : Bool := decide (EvOk L)
def aeB (S H : List Int) (K : List (Int × Int)) : Bool := slB S H K && evB (slL S H K)

set_option maxRecDepth 100000 in
set_option maxHeartbeats 2000000 in
theorem sAreEven_any (w : World) (aa ab ak : Option Addr) (n m r ca cb ck : Nat) (S H : List Int) (K : List (Int × Int)) (h1 : Ints w aa n ca S) (h2 : Ints w ab m cb H) (h3 : Ratios w ak r ck K) :
    Calls Try.prog 32 #[brV aa n ca ab m cb ak r ck] w fun e w' => e = .returned (.tuple #[.bool (aeB S H K), .bool (slB S H K)]) ∧ New w w' := by
  have HA := Lib.hid h1; clear h1
  have HB := Lib.hid h2; clear h2
  have HK := Lib.hid h3; clear h3
  by_cases gb : slB S H K = true
  · have GB := Lib.hid gb
    have WB := Lib.hid (show aeB S H K = evB (slL S H K) by unfold aeB; rw [gb]; rfl)
    have SM := slL_small S H K
    obtain ⟨L, hL⟩ : ∃ L, L = slL S H K := ⟨_, rfl⟩
    rw [← hL] at WB SM
    have HL := Lib.hid hL.symm
    clear gb hL
    go_enter Try.func32, Try.ntmps32
    go_wp2_with fail
    refine (sSharesOf_any _ _ _ _ _ _ _ _ _ _ S H K (HA.out.new (by repeat (first | with_reducible exact New.refl _ | with_reducible assumption | refine New.drewN ?_ _ | refine New.drew ?_ | refine New.alloc ?_ _ | refine New.setCell ?_ (by first | omega | (simp; omega) | (simp; done)) _ | (refine New.trans ?_ (by assumption))))) (HB.out.new (by repeat (first | with_reducible exact New.refl _ | with_reducible assumption | refine New.drewN ?_ _ | refine New.drew ?_ | refine New.alloc ?_ _ | refine New.setCell ?_ (by first | omega | (simp; omega) | (simp; done)) _ | (refine New.trans ?_ (by assumption))))) (HK.out.new (by repeat (first | with_reducible exact New.refl _ | with_reducible assumption | refine New.drewN ?_ _ | refine New.drew ?_ | refine New.alloc ?_ _ | refine New.setCell ?_ (by first | omega | (simp; omega) | (simp; done)) _ | (refine New.trans ?_ (by assumption)))))).mono ?_
    rintro e w1 ⟨oa, on, oc, rfl, o1, n1⟩
    rw [GB.out]
    have N1 := Lib.hid (show New w w1 from New.trans (by repeat (first | with_reducible exact New.refl _ | with_reducible assumption | refine New.drewN ?_ _ | refine New.drew ?_ | refine New.alloc ?_ _ | refine New.setCell ?_ (by first | omega | (simp; omega) | (simp; done)) _ | (refine New.trans ?_ (by assumption)))) n1); clear n1
    rw [HL.out] at o1
    have on1 := o1.1
    have O1 := Lib.hid o1.reads; clear o1
    go_wp2
    go_loopw [17] (fun i wr => ∃ j : Nat, j ≤ on ∧ i = .int .i64 (j : Int) ∧ (∀ t, t < j → L[t]?.getD (0, 0) = L[0]?.getD (0, 0)) ∧ New w1 wr) (fun i _ => on - (intOf i).toNat)
    case atStart => exact ⟨0, Nat.zero_le _, rfl, fun t ht => absurd ht (by omega), New.refl _⟩
    case round =>
      obtain ⟨j, hj, rfl, hall, hn⟩ := hrel
      have HAL := Lib.hid hall; clear hall
      have HN := Lib.hid hn; clear hn
      have zb := HN.out.size
      by_cases hlt : (j : Int) < on
      · have hjn : j < on := by omega
        have h0n : 0 < on := by omega
        obtain ⟨bs, os, e1, g0, g1⟩ := (O1.out.new HN.out).2.2.2.1 j hjn
        obtain ⟨bt, ot, e2, k0, k1⟩ := (O1.out.new HN.out).2.2.2.1 0 h0n
        rw [e1] at e2
        simp only [Option.some.injEq, Addr.mk.injEq] at e2
        obtain ⟨rfl, rfl, _⟩ := e2
        rw [Nat.zero_mul, Nat.add_zero] at k0 k1
        obtain ⟨⟨x, y⟩, hxy⟩ : ∃ p, p = L[j]?.getD (0, 0) := ⟨_, rfl⟩
        obtain ⟨⟨x', y'⟩, hxy'⟩ : ∃ p, p = L[0]?.getD (0, 0) := ⟨_, rfl⟩
        rw [← hxy] at g0 g1
        rw [← hxy'] at k0 k1
        simp only at g0 g1 k0 k1
        have HX := Lib.hid hxy.symm; have HX' := Lib.hid hxy'.symm
        clear hxy hxy'
        have zg := World.block_lt_of_cell? _ _ g0
        simp only at zg
        subst e1
        by_cases ex : x = x'
        · by_cases ey : y = y'
          · have HE := Lib.hid (show L[j]?.getD (0, 0) = L[0]?.getD (0, 0) by rw [HX.out, HX'.out, ex, ey])
            subst ex
            subst ey
            go_wp2
            go_region
            all_goals
              go_wp2
              go_roundw
              case rel =>
                refine ⟨j + 1, by omega, by go_num, fun t ht => ?_, by have := HN.out; (repeat (first | with_reducible exact New.refl _ | with_reducible assumption | refine New.drewN ?_ _ | refine New.drew ?_ | refine New.alloc ?_ _ | refine New.setCell ?_ (by first | omega | (simp; omega) | (simp; done)) _ | (refine New.trans ?_ (by assumption))))⟩
                by_cases e : t = j
                · subst e; exact HE.out
                · exact HAL.out t (by omega)
              case measure => simp [intOf]; omega
          · have HE := Lib.hid (show evB L = false from decide_eq_false fun h => ey (by have := h j (by omega); rw [HX.out, HX'.out] at this; exact congrArg Prod.snd this))
            subst ex
            go_wp2
            go_region
            all_goals
              go_wp2
              go_ret2
              exact ⟨by rw [WB.out, HE.out, GB.out]; rfl, by have := N1.out.trans HN.out; (repeat (first | with_reducible exact New.refl _ | with_reducible assumption | refine New.drewN ?_ _ | refine New.drew ?_ | refine New.alloc ?_ _ | refine New.setCell ?_ (by first | omega | (simp; omega) | (simp; done)) _ | (refine New.trans ?_ (by assumption))))⟩
        · have HE := Lib.hid (show evB L = false from decide_eq_false fun h => ex (by have := h j (by omega); rw [HX.out, HX'.out] at this; exact congrArg Prod.fst this))
          go_wp2
          go_region
          all_goals
            go_wp2
            go_ret2
            exact ⟨by rw [WB.out, HE.out, GB.out]; rfl, by have := N1.out.trans HN.out; (repeat (first | with_reducible exact New.refl _ | with_reducible assumption | refine New.drewN ?_ _ | refine New.drew ?_ | refine New.alloc ?_ _ | refine New.setCell ?_ (by first | omega | (simp; omega) | (simp; done)) _ | (refine New.trans ?_ (by assumption))))⟩
      · obtain rfl : j = on := by omega
        have HE := Lib.hid (show evB L = true from decide_eq_true fun t ht => HAL.out t (by omega))
        go_wp2
        go_ret2
        exact ⟨by rw [WB.out, HE.out, GB.out]; rfl, N1.out.trans HN.out⟩
  · have gb := bool_no gb
    have GB := Lib.hid gb
    have WB := Lib.hid (show aeB S H K = false by unfold aeB; rw [gb]; rfl)
    clear gb
    go_enter Try.func32, Try.ntmps32
    go_wp2_with fail
    refine (sSharesOf_any _ _ _ _ _ _ _ _ _ _ S H K (HA.out.new (by repeat (first | with_reducible exact New.refl _ | with_reducible assumption | refine New.drewN ?_ _ | refine New.drew ?_ | refine New.alloc ?_ _ | refine New.setCell ?_ (by first | omega | (simp; omega) | (simp; done)) _ | (refine New.trans ?_ (by assumption))))) (HB.out.new (by repeat (first | with_reducible exact New.refl _ | with_reducible assumption | refine New.drewN ?_ _ | refine New.drew ?_ | refine New.alloc ?_ _ | refine New.setCell ?_ (by first | omega | (simp; omega) | (simp; done)) _ | (refine New.trans ?_ (by assumption))))) (HK.out.new (by repeat (first | with_reducible exact New.refl _ | with_reducible assumption | refine New.drewN ?_ _ | refine New.drew ?_ | refine New.alloc ?_ _ | refine New.setCell ?_ (by first | omega | (simp; omega) | (simp; done)) _ | (refine New.trans ?_ (by assumption)))))).mono ?_
    rintro e w1 ⟨oa, on, oc, rfl, o1, n1⟩
    rw [GB.out]
    have N1 := Lib.hid (show New w w1 from New.trans (by repeat (first | with_reducible exact New.refl _ | with_reducible assumption | refine New.drewN ?_ _ | refine New.drew ?_ | refine New.alloc ?_ _ | refine New.setCell ?_ (by first | omega | (simp; omega) | (simp; done)) _ | (refine New.trans ?_ (by assumption)))) n1); clear n1
    go_wp2
    go_ret2
    exact ⟨by rw [WB.out, GB.out]; rfl, N1.out⟩

set_option maxRecDepth 100000 in
set_option maxHeartbeats 2000000 in
theorem iAreEven_any (w : World) (aa ab ak : Option Addr) (n m r ca cb ck : Nat) (S H : List Int) (K : List (Int × Int)) (h1 : Ints w aa n ca S) (h2 : Ints w ab m cb H) (h3 : Ratios w ak r ck K) :
    Calls Try.prog 33 #[brV aa n ca ab m cb ak r ck] w fun e w' => e = .returned (.tuple #[.bool (aeB S H K), .bool (slB S H K)]) ∧ New w w' := by
  have HA := Lib.hid h1; clear h1
  have HB := Lib.hid h2; clear h2
  have HK := Lib.hid h3; clear h3
  by_cases gb : slB S H K = true
  · have GB := Lib.hid gb
    have WB := Lib.hid (show aeB S H K = evB (slL S H K) by unfold aeB; rw [gb]; rfl)
    have SM := slL_small S H K
    obtain ⟨L, hL⟩ : ∃ L, L = slL S H K := ⟨_, rfl⟩
    rw [← hL] at WB SM
    have HL := Lib.hid hL.symm
    clear gb hL
    go_enter Try.func33, Try.ntmps33
    go_wp2_with fail
    refine (iSharesOf_any _ _ _ _ _ _ _ _ _ _ S H K (HA.out.new (by repeat (first | with_reducible exact New.refl _ | with_reducible assumption | refine New.drewN ?_ _ | refine New.drew ?_ | refine New.alloc ?_ _ | refine New.setCell ?_ (by first | omega | (simp; omega) | (simp; done)) _ | (refine New.trans ?_ (by assumption))))) (HB.out.new (by repeat (first | with_reducible exact New.refl _ | with_reducible assumption | refine New.drewN ?_ _ | refine New.drew ?_ | refine New.alloc ?_ _ | refine New.setCell ?_ (by first | omega | (simp; omega) | (simp; done)) _ | (refine New.trans ?_ (by assumption))))) (HK.out.new (by repeat (first | with_reducible exact New.refl _ | with_reducible assumption | refine New.drewN ?_ _ | refine New.drew ?_ | refine New.alloc ?_ _ | refine New.setCell ?_ (by first | omega | (simp; omega) | (simp; done)) _ | (refine New.trans ?_ (by assumption)))))).mono ?_
    rintro e w1 ⟨oa, on, oc, rfl, o1, n1⟩
    rw [GB.out]
    have N1 := Lib.hid (show New w w1 from New.trans (by repeat (first | with_reducible exact New.refl _ | with_reducible assumption | refine New.drewN ?_ _ | refine New.drew ?_ | refine New.alloc ?_ _ | refine New.setCell ?_ (by first | omega | (simp; omega) | (simp; done)) _ | (refine New.trans ?_ (by assumption)))) n1); clear n1
    rw [HL.out] at o1
    have on1 := o1.1
    have O1 := Lib.hid o1.reads; clear o1
    go_wp2
    go_loopw [17] (fun i wr => ∃ j : Nat, j ≤ on ∧ i = .int .i64 (j : Int) ∧ (∀ t, t < j → L[t]?.getD (0, 0) = L[0]?.getD (0, 0)) ∧ New w1 wr) (fun i _ => on - (intOf i).toNat)
    case atStart => exact ⟨0, Nat.zero_le _, rfl, fun t ht => absurd ht (by omega), New.refl _⟩
    case round =>
      obtain ⟨j, hj, rfl, hall, hn⟩ := hrel
      have HAL := Lib.hid hall; clear hall
      have HN := Lib.hid hn; clear hn
      have zb := HN.out.size
      by_cases hlt : (j : Int) < on
      · have hjn : j < on := by omega
        have h0n : 0 < on := by omega
        obtain ⟨bs, os, e1, g0, g1⟩ := (O1.out.new HN.out).2.2.2.1 j hjn
        obtain ⟨bt, ot, e2, k0, k1⟩ := (O1.out.new HN.out).2.2.2.1 0 h0n
        rw [e1] at e2
        simp only [Option.some.injEq, Addr.mk.injEq] at e2
        obtain ⟨rfl, rfl, _⟩ := e2
        rw [Nat.zero_mul, Nat.add_zero] at k0 k1
        obtain ⟨⟨x, y⟩, hxy⟩ : ∃ p, p = L[j]?.getD (0, 0) := ⟨_, rfl⟩
        obtain ⟨⟨x', y'⟩, hxy'⟩ : ∃ p, p = L[0]?.getD (0, 0) := ⟨_, rfl⟩
        rw [← hxy] at g0 g1
        rw [← hxy'] at k0 k1
        simp only at g0 g1 k0 k1
        have HX := Lib.hid hxy.symm; have HX' := Lib.hid hxy'.symm
        clear hxy hxy'
        have zg := World.block_lt_of_cell? _ _ g0
        simp only at zg
        subst e1
        by_cases ex : x = x'
        · by_cases ey : y = y'
          · have HE := Lib.hid (show L[j]?.getD (0, 0) = L[0]?.getD (0, 0) by rw [HX.out, HX'.out, ex, ey])
            subst ex
            subst ey
            go_wp2
            go_region
            all_goals
              go_wp2
              go_roundw
              case rel =>
                refine ⟨j + 1, by omega, by go_num, fun t ht => ?_, by have := HN.out; (repeat (first | with_reducible exact New.refl _ | with_reducible assumption | refine New.drewN ?_ _ | refine New.drew ?_ | refine New.alloc ?_ _ | refine New.setCell ?_ (by first | omega | (simp; omega) | (simp; done)) _ | (refine New.trans ?_ (by assumption))))⟩
                by_cases e : t = j
                · subst e; exact HE.out
                · exact HAL.out t (by omega)
              case measure => simp [intOf]; omega
          · have HE := Lib.hid (show evB L = false from decide_eq_false fun h => ey (by have := h j (by omega); rw [HX.out, HX'.out] at this; exact congrArg Prod.snd this))
            subst ex
            go_wp2
            go_region
            all_goals
              go_wp2
              go_ret2
              exact ⟨by rw [WB.out, HE.out, GB.out]; rfl, by have := N1.out.trans HN.out; (repeat (first | with_reducible exact New.refl _ | with_reducible assumption | refine New.drewN ?_ _ | refine New.drew ?_ | refine New.alloc ?_ _ | refine New.setCell ?_ (by first | omega | (simp; omega) | (simp; done)) _ | (refine New.trans ?_ (by assumption))))⟩
        · have HE := Lib.hid (show evB L = false from decide_eq_false fun h => ex (by have := h j (by omega); rw [HX.out, HX'.out] at this; exact congrArg Prod.fst this))
          go_wp2
          go_region
          all_goals
            go_wp2
            go_ret2
            exact ⟨by rw [WB.out, HE.out, GB.out]; rfl, by have := N1.out.trans HN.out; (repeat (first | with_reducible exact New.refl _ | with_reducible assumption | refine New.drewN ?_ _ | refine New.drew ?_ | refine New.alloc ?_ _ | refine New.setCell ?_ (by first | omega | (simp; omega) | (simp; done)) _ | (refine New.trans ?_ (by assumption))))⟩
      · obtain rfl : j = on := by omega
        have HE := Lib.hid (show evB L = true from decide_eq_true fun t ht => HAL.out t (by omega))
        go_wp2
        go_ret2
        exact ⟨by rw [WB.out, HE.out, GB.out]; rfl, N1.out.trans HN.out⟩
  · have gb := bool_no gb
    have GB := Lib.hid gb
    have WB := Lib.hid (show aeB S H K = false by unfold aeB; rw [gb]; rfl)
    clear gb
    go_enter Try.func33, Try.ntmps33
    go_wp2_with fail
    refine (iSharesOf_any _ _ _ _ _ _ _ _ _ _ S H K (HA.out.new (by repeat (first | with_reducible exact New.refl _ | with_reducible assumption | refine New.drewN ?_ _ | refine New.drew ?_ | refine New.alloc ?_ _ | refine New.setCell ?_ (by first | omega | (simp; omega) | (simp; done)) _ | (refine New.trans ?_ (by assumption))))) (HB.out.new (by repeat (first | with_reducible exact New.refl _ | with_reducible assumption | refine New.drewN ?_ _ | refine New.drew ?_ | refine New.alloc ?_ _ | refine New.setCell ?_ (by first | omega | (simp; omega) | (simp; done)) _ | (refine New.trans ?_ (by assumption))))) (HK.out.new (by repeat (first | with_reducible exact New.refl _ | with_reducible assumption | refine New.drewN ?_ _ | refine New.drew ?_ | refine New.alloc ?_ _ | refine New.setCell ?_ (by first | omega | (simp; omega) | (simp; done)) _ | (refine New.trans ?_ (by assumption)))))).mono ?_
    rintro e w1 ⟨oa, on, oc, rfl, o1, n1⟩
    rw [GB.out]
    have N1 := Lib.hid (show New w w1 from New.trans (by repeat (first | with_reducible exact New.refl _ | with_reducible assumption | refine New.drewN ?_ _ | refine New.drew ?_ | refine New.alloc ?_ _ | refine New.setCell ?_ (by first | omega | (simp; omega) | (simp; done)) _ | (refine New.trans ?_ (by assumption)))) n1); clear n1
    go_wp2
    go_ret2
    exact ⟨by rw [WB.out, GB.out]; rfl, N1.out⟩
end Go.Proofs.Ytidklnpohgmnpaa
