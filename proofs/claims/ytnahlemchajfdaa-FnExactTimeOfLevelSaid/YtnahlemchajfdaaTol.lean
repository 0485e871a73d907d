/- TimeOfLevel and TimeToEmpty: the model's. -/
import Derived.Test.YtnahlemchajfdaaLev
import Derived.Test.YtnahlemchajfdaaAll
import Derived.Deep.RegionHeld3
import Derived.Deep.DeepCutAuto
namespace Go.Proofs.Ytnahlemchajfdaa
open Go.RowKit Go.IntWalk

def tlN (D L x : Int) : Nat := (levL D L).findIdx (fun y => decide (y ≤ x))
theorem levL_length (D L : Int) : (levL D L).length = tim D L + 1 := levTo_length _ _ _
theorem levL_get (D L : Int) {j : Nat} (h : j ≤ tim D L) : (levL D L)[j]?.getD 0 = levK D L j := levTo_get D L (by omega)
theorem tlN_le {D L x : Int} (h2 : 1 ≤ D) (h0 : 0 ≤ L) (hx : 0 ≤ x) : tlN D L x ≤ tim D L := by
  have h : tlN D L x < (levL D L).length := by
    unfold tlN
    rw [List.findIdx_lt_length]
    have hl : tim D L < (levL D L).length := by rw [levL_length]; omega
    refine ⟨(levL D L)[tim D L], List.getElem_mem hl, ?_⟩
    have e := levL_get D L (Nat.le_refl (tim D L))
    rw [List.getElem?_eq_getElem hl, Option.getD_some, levK_end h2 h0] at e
    rw [e]; simpa using hx
  rw [levL_length] at h; omega
theorem tlN_hit {D L x : Int} (h2 : 1 ≤ D) (h0 : 0 ≤ L) (hx : 0 ≤ x) : levK D L (tlN D L x) ≤ x := by
  have h := tlN_le h2 h0 hx
  have hl : tlN D L x < (levL D L).length := by rw [levL_length]; omega
  have e := List.findIdx_getElem (xs := levL D L) (p := fun y => decide (y ≤ x)) (w := hl)
  have g := levL_get D L h
  rw [List.getElem?_eq_getElem hl, Option.getD_some] at g
  have e2 : (levL D L)[tlN D L x] ≤ x := of_decide_eq_true e
  rw [← g]; exact e2
theorem tlN_before {D L x : Int} {j : Nat} (h2 : 1 ≤ D) (h0 : 0 ≤ L) (hx : 0 ≤ x) (hj : j < tlN D L x) : x < levK D L j := by
  have h := tlN_le h2 h0 hx
  have hl : j < (levL D L).length := by rw [levL_length]; omega
  have e := List.not_of_lt_findIdx (xs := levL D L) (p := fun y => decide (y ≤ x)) hj
  have g := levL_get D L (show j ≤ tim D L by omega)
  rw [List.getElem?_eq_getElem hl, Option.getD_some] at g
  rw [← g]
  simpa using e
theorem tlN_zero {D L : Int} (h2 : 1 ≤ D) (h0 : 0 ≤ L) : tlN D L 0 = tim D L := by
  have h := tlN_le h2 h0 (Int.le_refl 0)
  have k := tlN_hit h2 h0 (Int.le_refl 0)
  rcases Nat.lt_or_ge (tlN D L 0) (tim D L) with q | q
  · have := levK_pos h2 h0 q; omega
  · omega
def tlB (L D x : Int) : Bool := ckB L D && decide (0 ≤ x)
def tlM (L D x : Int) : Int := if tlB L D x then (tlN D L x : Nat) else 0
def teM (L D : Int) : Int := if ckB L D then (tim D L : Nat) else 0
theorem tl_te (L D : Int) : tlB L D 0 = ckB L D ∧ tlM L D 0 = teM L D := by
  have e : tlB L D 0 = ckB L D := by unfold tlB; simp
  refine ⟨e, ?_⟩
  unfold tlM teM
  rw [e]
  split
  · rename_i h
    have q := ckB_iff.1 h
    rw [tlN_zero q.2.1 q.1.1]
  · rfl

theorem sTimeToEmpty_any (w : World) (L D : Int) :
    Calls Try.prog 18 #[.agg #[.int .i64 L, .int .i64 D]] w fun e w' => e = .returned (.tuple #[.int .i64 (teM L D), .bool (ckB L D)]) ∧ New w w' := by
  by_cases h : ckB L D = true
  · have q := ckB_iff.1 h
    have HM := Lib.hid (show teM L D = (tim D L : Nat) by unfold teM; rw [if_pos h])
    have H := Lib.hid h; clear h
    go_enter Try.func18, Try.ntmps18
    go_wp2_with fail
    refine (ckGood_any _ _ _).mono ?_
    rintro e w1 ⟨rfl, n_w1⟩
    have b0_w1 : w1.cell? ⟨w.heap.size, 0, none⟩ = some (.int .i64 L) := n_w1.cell (by simp [go_sem])
    have b1_w1 : w1.cell? ⟨w.heap.size, 1, none⟩ = some (.int .i64 D) := n_w1.cell (by simp [go_sem])
    have N1 := Lib.hid (show New w w1 from New.trans (by repeat (first | with_reducible exact New.refl _ | with_reducible assumption | refine New.drewN ?_ _ | refine New.drew ?_ | refine New.alloc ?_ _ | refine New.setCell ?_ (by first | omega | (simp; omega) | (simp; done)) _ | (refine New.trans ?_ (by assumption)))) n_w1); clear n_w1
    rw [H.out]
    go_wp2_with fail
    refine (ckEmpty_any _ _ _ q.1.1 q.1.2 q.2.1 q.2.2).mono ?_
    rintro e w2 ⟨rfl, n_w2⟩
    have N2 := Lib.hid (New.trans N1.out n_w2); clear n_w2
    go_wp2
    go_ret2
    rw [HM.out, H.out]
    exact ⟨rfl, N2.out⟩
  · have hf := bool_nt h
    have HM := Lib.hid (show teM L D = 0 by unfold teM; rw [hf]; rfl)
    have H := Lib.hid hf; clear h hf
    go_enter Try.func18, Try.ntmps18
    go_wp2_with fail
    refine (ckGood_any _ _ _).mono ?_
    rintro e w1 ⟨rfl, n_w1⟩
    have N1 := Lib.hid (show New w w1 from New.trans (by repeat (first | with_reducible exact New.refl _ | with_reducible assumption | refine New.drewN ?_ _ | refine New.drew ?_ | refine New.alloc ?_ _ | refine New.setCell ?_ (by first | omega | (simp; omega) | (simp; done)) _ | (refine New.trans ?_ (by assumption)))) n_w1); clear n_w1
    rw [H.out]
    go_wp2
    go_ret2
    rw [HM.out, H.out]
    exact ⟨rfl, N1.out⟩
end Go.Proofs.Ytnahlemchajfdaa
