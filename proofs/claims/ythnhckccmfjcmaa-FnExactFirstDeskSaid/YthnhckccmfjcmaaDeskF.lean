/- The laws' helpers over desks, and whether something is a desk. -/
import Derived.Test.YthnhckccmfjcmaaSpec2
import Derived.Test.YthnhckccmfjcmaaImpl3
namespace Go.Proofs.Ythnhckccmfjcmaa
open Go.RowKit

theorem eqDesk_same (w : World) (aa ab ba bb : Option Addr) (n m p q ca cb cc cd : Nat) (S H : List Int) (k : Int)
    (h1 : Ints w aa n ca S) (h2 : Ints w ab m cb H) (h3 : Ints w ba p cc S) (h4 : Ints w bb q cd H) :
    Calls Try.prog 7 #[.agg #[.slice aa n ca, .slice ab m cb, .int .i64 k], .agg #[.slice ba p cc, .slice bb q cd, .int .i64 k]] w fun e w' => e = .returned (.bool true) ∧ New w w' := by
  have G1 := Lib.hid h1; clear h1
  have G2 := Lib.hid h2; clear h2
  have G3 := Lib.hid h3; clear h3
  have G4 := Lib.hid h4; clear h4
  go_enter Try.func7, Try.ntmps7
  go_wp2_with fail
  refine (eqVessels_any _ _ _ _ _ _ _ _ _ _ _ _ _ S H S H (G1.out.new (by repeat (first | with_reducible exact New.refl _ | with_reducible assumption | refine New.drewN ?_ _ | refine New.drew ?_ | refine New.alloc ?_ _ | refine New.setCell ?_ (by first | omega | (simp; omega) | (simp; done)) _ | (refine New.trans ?_ (by assumption))))) (G2.out.new (by repeat (first | with_reducible exact New.refl _ | with_reducible assumption | refine New.drewN ?_ _ | refine New.drew ?_ | refine New.alloc ?_ _ | refine New.setCell ?_ (by first | omega | (simp; omega) | (simp; done)) _ | (refine New.trans ?_ (by assumption))))) (G3.out.new (by repeat (first | with_reducible exact New.refl _ | with_reducible assumption | refine New.drewN ?_ _ | refine New.drew ?_ | refine New.alloc ?_ _ | refine New.setCell ?_ (by first | omega | (simp; omega) | (simp; done)) _ | (refine New.trans ?_ (by assumption))))) (G4.out.new (by repeat (first | with_reducible exact New.refl _ | with_reducible assumption | refine New.drewN ?_ _ | refine New.drew ?_ | refine New.alloc ?_ _ | refine New.setCell ?_ (by first | omega | (simp; omega) | (simp; done)) _ | (refine New.trans ?_ (by assumption)))))).mono ?_
  rintro e w1 ⟨rfl, n1⟩
  have c1 : w1.cell? ⟨w.heap.size, 2, none⟩ = some (.int .i64 k) := n1.cell (by simp [go_sem])
  have c2 : w1.cell? ⟨w.heap.size + 1, 2, none⟩ = some (.int .i64 k) := n1.cell (by simp [go_sem])
  have n1' : New w w1 := New.trans (by repeat (first | with_reducible exact New.refl _ | with_reducible assumption | refine New.drewN ?_ _ | refine New.drew ?_ | refine New.alloc ?_ _ | refine New.setCell ?_ (by first | omega | (simp; omega) | (simp; done)) _ | (refine New.trans ?_ (by assumption)))) n1
  have N1 := Lib.hid n1'; clear n1 n1'
  simp only [and_self, decide_true]
  go_wp2
  go_ret
  exact ⟨rfl, N1.out⟩

theorem szDesk_any (w : World) (aa ab : Option Addr) (n m ca cb : Nat) (k left : Int) (hn : n ≤ 9223372036854775807) (hm : m ≤ 9223372036854775807) (h0 : 0 ≤ left) (h1 : left ≤ 1048576) :
    Calls Try.prog 10 #[.agg #[.slice aa n ca, .slice ab m cb, .int .i64 k], .int .i64 left] w fun e w' => ∃ r : Int, e = .returned (.int .i64 r) ∧ -1 ≤ r ∧ r ≤ left ∧ SzOk left (n + m) r ∧ New w w' := by
  go_enter Try.func10, Try.ntmps10
  go_wp2_with fail
  refine (szVessels_any _ _ _ n m _ _ _ hn hm h0 h1).mono ?_
  rintro e w1 ⟨r, rfl, g1, g2, g3, n1⟩
  have G3 := Lib.hid g3; clear g3
  have n1' : New w w1 := New.trans (by repeat (first | with_reducible exact New.refl _ | with_reducible assumption | refine New.drewN ?_ _ | refine New.drew ?_ | refine New.alloc ?_ _ | refine New.setCell ?_ (by first | omega | (simp; omega) | (simp; done)) _ | (refine New.trans ?_ (by assumption)))) n1
  have N1 := Lib.hid n1'; clear n1 n1'
  by_cases hr : r < 0
  · go_wp2
    go_ret
    exact ⟨-1, rfl, by omega, by omega, fun h => absurd h (by omega), N1.out⟩
  · go_wp2
    go_ret
    exact ⟨r, rfl, by omega, by omega, G3.out, N1.out⟩

set_option maxHeartbeats 2000000 in
theorem toDesk_any (w : World) (aa ab : Option Addr) (n m ca cb : Nat) (S H : List Int) (k : Int) (h1 : Ints w aa n ca S) (h2 : Ints w ab m cb H) (hn : n ≤ 1048576) (hm : m ≤ 1048576) :
    Calls Try.prog 12 #[.agg #[.slice aa n ca, .slice ab m cb, .int .i64 k]] w fun e w' => ∃ sa sc sb sd, e = .returned (.agg #[.slice sa n sc, .slice sb m sd, .int .i64 k]) ∧ OwnV w' w.heap.size w'.heap.size sa n sc sb m sd S H ∧ New w w' := by
  have G1 := Lib.hid h1; clear h1
  have G2 := Lib.hid h2; clear h2
  go_enter Try.func12, Try.ntmps12
  go_wp2_with fail
  refine (toVessels_any _ _ _ n m _ _ S H (G1.out.new (by repeat (first | with_reducible exact New.refl _ | with_reducible assumption | refine New.drewN ?_ _ | refine New.drew ?_ | refine New.alloc ?_ _ | refine New.setCell ?_ (by first | omega | (simp; omega) | (simp; done)) _ | (refine New.trans ?_ (by assumption))))) (G2.out.new (by repeat (first | with_reducible exact New.refl _ | with_reducible assumption | refine New.drewN ?_ _ | refine New.drew ?_ | refine New.alloc ?_ _ | refine New.setCell ?_ (by first | omega | (simp; omega) | (simp; done)) _ | (refine New.trans ?_ (by assumption))))) hn hm).mono ?_
  rintro e w1 ⟨sa, sc, sb, sd, rfl, o1, n1⟩
  have z := n1.size
  simp only [World.size_alloc] at z
  have z0 : w.heap.size < w1.heap.size := by omega
  have z1 : w.heap.size + 1 < w1.heap.size := by omega
  have z2 : w.heap.size + 1 + 1 < w1.heap.size := by omega
  have c2 : w1.cell? ⟨w.heap.size, 2, none⟩ = some (.int .i64 k) := n1.cell (by simp [go_sem])
  have d0 : w1.cell? ⟨w.heap.size + 1, 0, none⟩ = some (.slice none 0 0) := n1.cell (by simp [go_sem])
  have d1 : w1.cell? ⟨w.heap.size + 1, 1, none⟩ = some (.slice none 0 0) := n1.cell (by simp [go_sem])
  have d2 : w1.cell? ⟨w.heap.size + 1, 2, none⟩ = some (.int .i64 0) := n1.cell (by simp [go_sem])
  have e0 : w1.cell? ⟨w.heap.size + 1 + 1, 0, none⟩ = some (.slice none 0 0) := n1.cell (by simp [go_sem])
  have e1 : w1.cell? ⟨w.heap.size + 1 + 1, 1, none⟩ = some (.slice none 0 0) := n1.cell (by simp [go_sem])
  have e2 : w1.cell? ⟨w.heap.size + 1 + 1, 2, none⟩ = some (.int .i64 0) := n1.cell (by simp [go_sem])
  have p0 : w1.frozen? ⟨w.heap.size + 1, 0, none⟩ = false := (Below.frozen (p := ⟨w.heap.size + 1, 0, none⟩) n1 (by simp)).trans (by simp [go_sem])
  have p1 : w1.frozen? ⟨w.heap.size + 1, 1, none⟩ = false := (Below.frozen (p := ⟨w.heap.size + 1, 1, none⟩) n1 (by simp)).trans (by simp [go_sem])
  have p2 : w1.frozen? ⟨w.heap.size + 1, 2, none⟩ = false := (Below.frozen (p := ⟨w.heap.size + 1, 2, none⟩) n1 (by simp)).trans (by simp [go_sem])
  have q0 : w1.frozen? ⟨w.heap.size + 1 + 1, 0, none⟩ = false := (Below.frozen (p := ⟨w.heap.size + 1 + 1, 0, none⟩) n1 (by simp)).trans (by simp [go_sem])
  have q1 : w1.frozen? ⟨w.heap.size + 1 + 1, 1, none⟩ = false := (Below.frozen (p := ⟨w.heap.size + 1 + 1, 1, none⟩) n1 (by simp)).trans (by simp [go_sem])
  have q2 : w1.frozen? ⟨w.heap.size + 1 + 1, 2, none⟩ = false := (Below.frozen (p := ⟨w.heap.size + 1 + 1, 2, none⟩) n1 (by simp)).trans (by simp [go_sem])
  have n1' : New w w1 := New.trans (by repeat (first | with_reducible exact New.refl _ | with_reducible assumption | refine New.drewN ?_ _ | refine New.drew ?_ | refine New.alloc ?_ _ | refine New.setCell ?_ (by first | omega | (simp; omega) | (simp; done)) _ | (refine New.trans ?_ (by assumption)))) n1
  have N1 := Lib.hid n1'; clear n1 n1'
  have O1 := Lib.hid o1; clear o1
  go_wp2
  have o1 := O1.out
  simp only [World.size_alloc] at o1
  refine bodyPost_ret (v := .agg #[.slice sa n sc, .slice sb m sd, .int .i64 k]) (by simp [results, Try.results12, go_sem, d0, d1, d2]) rfl ⟨sa, sc, sb, sd, rfl, ?_, ?_⟩
  · refine OwnV.mono (lo := w.heap.size + 1 + 1 + 1) (hi := w1.heap.size) ?_ (by omega) (by simp)
    repeat (refine OwnV.setCell ?_ (.inl (by simp)) _)
    exact o1
  · exact (((((N1.out.setCell (by simp; try omega) _).setCell (by simp; try omega) _).setCell (by simp; try omega) _).setCell (by simp; try omega) _).setCell (by simp; try omega) _).setCell (by simp; try omega) _

/-- Whether something is a desk. -/
def deskB (S H : List Int) (k : Int) : Bool := goodB S H && (decide (0 ≤ k) && decide (k ≤ 1000000))

theorem coGood_any (w : World) (aa ab : Option Addr) (n m ca cb : Nat) (S H : List Int) (k : Int) (h1 : Ints w aa n ca S) (h2 : Ints w ab m cb H) :
    Calls Try.prog 18 #[.agg #[.slice aa n ca, .slice ab m cb, .int .i64 k]] w fun e w' => e = .returned (.bool (deskB S H k)) ∧ New w w' := by
  have G1 := Lib.hid h1; clear h1
  have G2 := Lib.hid h2; clear h2
  go_enter Try.func18, Try.ntmps18
  go_wp2_with fail
  refine (veGood_any _ _ _ _ _ _ _ S H (G1.out.new (by repeat (first | with_reducible exact New.refl _ | with_reducible assumption | refine New.drewN ?_ _ | refine New.drew ?_ | refine New.alloc ?_ _ | refine New.setCell ?_ (by first | omega | (simp; omega) | (simp; done)) _ | (refine New.trans ?_ (by assumption))))) (G2.out.new (by repeat (first | with_reducible exact New.refl _ | with_reducible assumption | refine New.drewN ?_ _ | refine New.drew ?_ | refine New.alloc ?_ _ | refine New.setCell ?_ (by first | omega | (simp; omega) | (simp; done)) _ | (refine New.trans ?_ (by assumption)))))).mono ?_
  rintro e w1 ⟨rfl, n1⟩
  have c2 : w1.cell? ⟨w.heap.size, 2, none⟩ = some (.int .i64 k) := n1.cell (by simp [go_sem])
  have n1' : New w w1 := New.trans (by repeat (first | with_reducible exact New.refl _ | with_reducible assumption | refine New.drewN ?_ _ | refine New.drew ?_ | refine New.alloc ?_ _ | refine New.setCell ?_ (by first | omega | (simp; omega) | (simp; done)) _ | (refine New.trans ?_ (by assumption)))) n1
  have N1 := Lib.hid n1'; clear n1 n1'
  cases hg : goodB S H
  · go_wp2
    go_ret
    exact ⟨ret_bool (by simp [deskB, hg]), N1.out⟩
  · go_wp2_with fail
    refine (l1In_any _ _ _ _).mono ?_
    rintro e w2 ⟨rfl, rfl⟩
    go_wp2
    go_ret
    exact ⟨ret_bool (by simp [deskB, hg, inB]), N1.out⟩

theorem sIsDesk_any (w : World) (aa ab : Option Addr) (n m ca cb : Nat) (S H : List Int) (k : Int) (h1 : Ints w aa n ca S) (h2 : Ints w ab m cb H) :
    Calls Try.prog 11 #[.agg #[.slice aa n ca, .slice ab m cb, .int .i64 k]] w fun e w' => e = .returned (.bool (deskB S H k)) ∧ New w w' := by
  have G1 := Lib.hid h1; clear h1
  have G2 := Lib.hid h2; clear h2
  go_enter Try.func11, Try.ntmps11
  go_wp2_with fail
  refine (coGood_any _ _ _ _ _ _ _ S H k (G1.out.new (by repeat (first | with_reducible exact New.refl _ | with_reducible assumption | refine New.drewN ?_ _ | refine New.drew ?_ | refine New.alloc ?_ _ | refine New.setCell ?_ (by first | omega | (simp; omega) | (simp; done)) _ | (refine New.trans ?_ (by assumption))))) (G2.out.new (by repeat (first | with_reducible exact New.refl _ | with_reducible assumption | refine New.drewN ?_ _ | refine New.drew ?_ | refine New.alloc ?_ _ | refine New.setCell ?_ (by first | omega | (simp; omega) | (simp; done)) _ | (refine New.trans ?_ (by assumption)))))).mono ?_
  rintro e w1 ⟨rfl, n1⟩
  go_wp2
  go_ret
  exact ⟨rfl, New.trans (by repeat (first | with_reducible exact New.refl _ | with_reducible assumption | refine New.drewN ?_ _ | refine New.drew ?_ | refine New.alloc ?_ _ | refine New.setCell ?_ (by first | omega | (simp; omega) | (simp; done)) _ | (refine New.trans ?_ (by assumption)))) n1⟩

theorem iIsDesk_any (w : World) (aa ab : Option Addr) (n m ca cb : Nat) (S H : List Int) (k : Int) (h1 : Ints w aa n ca S) (h2 : Ints w ab m cb H) :
    Calls Try.prog 13 #[.agg #[.slice aa n ca, .slice ab m cb, .int .i64 k]] w fun e w' => e = .returned (.bool (deskB S H k)) ∧ New w w' := by
  have G1 := Lib.hid h1; clear h1
  have G2 := Lib.hid h2; clear h2
  go_enter Try.func13, Try.ntmps13
  go_wp2_with fail
  refine (iAreVessels_any _ _ _ _ _ _ _ S H (G1.out.new (by repeat (first | with_reducible exact New.refl _ | with_reducible assumption | refine New.drewN ?_ _ | refine New.drew ?_ | refine New.alloc ?_ _ | refine New.setCell ?_ (by first | omega | (simp; omega) | (simp; done)) _ | (refine New.trans ?_ (by assumption))))) (G2.out.new (by repeat (first | with_reducible exact New.refl _ | with_reducible assumption | refine New.drewN ?_ _ | refine New.drew ?_ | refine New.alloc ?_ _ | refine New.setCell ?_ (by first | omega | (simp; omega) | (simp; done)) _ | (refine New.trans ?_ (by assumption)))))).mono ?_
  rintro e w1 ⟨rfl, n1⟩
  have c2 : w1.cell? ⟨w.heap.size, 2, none⟩ = some (.int .i64 k) := n1.cell (by simp [go_sem])
  have n1' : New w w1 := New.trans (by repeat (first | with_reducible exact New.refl _ | with_reducible assumption | refine New.drewN ?_ _ | refine New.drew ?_ | refine New.alloc ?_ _ | refine New.setCell ?_ (by first | omega | (simp; omega) | (simp; done)) _ | (refine New.trans ?_ (by assumption)))) n1
  have N1 := Lib.hid n1'; clear n1 n1'
  cases hg : goodB S H
  · go_wp2
    go_ret
    exact ⟨ret_bool (by simp [deskB, hg]), N1.out⟩
  · by_cases h : 0 ≤ k
    · go_wp2
      go_ret
      exact ⟨ret_bool (by simp [deskB, hg, h]), N1.out⟩
    · go_wp2
      go_ret
      exact ⟨ret_bool (by simp [deskB, hg]; omega), N1.out⟩
end Go.Proofs.Ythnhckccmfjcmaa
