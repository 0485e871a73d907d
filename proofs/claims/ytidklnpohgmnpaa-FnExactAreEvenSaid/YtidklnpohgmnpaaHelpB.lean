/- The laws' helpers over Brine. -/
import Derived.Test.YtidklnpohgmnpaaHelpV
import Derived.Test.YtidklnpohgmnpaaRowRatio
import Derived.Test.YtidklnpohgmnpaaBr
namespace Go.Proofs.Ytidklnpohgmnpaa
open Go.RowKit

theorem szBrine_any (w : World) (aa ab ak : Option Addr) (n m r ca cb ck : Nat) (left : Int) (hn : n ≤ 9223372036854775807) (hm : m ≤ 9223372036854775807) (hr : r ≤ 9223372036854775807) (h0 : 0 ≤ left) (h1 : left ≤ 1048576) :
    Calls Try.prog 16 #[brV aa n ca ab m cb ak r ck, .int .i64 left] w fun e w' => ∃ x : Int, e = .returned (.int .i64 x) ∧ -1 ≤ x ∧ x ≤ left ∧ SzOk left (n + m + r) x ∧ New w w' := by
  go_enter Try.func16, Try.ntmps16
  go_wp2_with fail
  refine (szVessels_any _ _ _ _ _ _ _ _ hn hm h0 h1).mono ?_
  rintro e w1 ⟨x, rfl, g1, g2, g3, n1⟩
  have G3 := Lib.hid g3; clear g3
  have b2 : w1.cell? ⟨w.heap.size, 2, none⟩ = some (.slice ak r ck) := n1.cell (by simp [go_sem])
  have N1 := Lib.hid (show New w w1 from New.trans (by repeat (first | with_reducible exact New.refl _ | with_reducible assumption | refine New.drewN ?_ _ | refine New.drew ?_ | refine New.alloc ?_ _ | refine New.setCell ?_ (by first | omega | (simp; omega) | (simp; done)) _ | (refine New.trans ?_ (by assumption)))) n1); clear n1
  by_cases hr1 : x < 0
  · go_wp2
    go_ret
    exact ⟨-1, rfl, by omega, by omega, fun h => absurd h (by omega), N1.out⟩
  · go_wp2_with fail
    refine (szRatioS_any _ _ _ _ _ hr (by omega) (by omega)).mono ?_
    rintro e w2 ⟨y, rfl, g4, g5, g6, n2⟩
    have G6 := Lib.hid g6; clear g6
    have N2 := Lib.hid (N1.out.trans n2); clear n2
    by_cases hr2 : y < 0
    · go_wp2
      go_ret
      exact ⟨-1, rfl, by omega, by omega, fun h => absurd h (by omega), N2.out⟩
    · go_wp2
      go_ret
      refine ⟨y, rfl, by omega, by omega, fun _ => ?_, N2.out⟩
      have a := G3.out (by omega)
      have b := G6.out (by omega)
      omega

/-- Brine in rows of its own, its parts apart from each other. -/
def OwnB (w : World) (lo hi : Nat) (aa : Option Addr) (n ca : Nat) (ab : Option Addr) (m cb : Nat) (ak : Option Addr) (r ck : Nat) (S H : List Int) (K : List (Int × Int)) : Prop :=
  ∃ mid, lo ≤ mid ∧ mid ≤ hi ∧ OwnV w lo mid aa n ca ab m cb S H ∧ OwnRatio w mid hi ak r ck K
theorem OwnB.new {w w' : World} {lo hi : Nat} {aa ab ak : Option Addr} {n m r ca cb ck : Nat} {S H : List Int} {K : List (Int × Int)} (h : OwnB w lo hi aa n ca ab m cb ak r ck S H K) (k : New w w') : OwnB w' lo hi aa n ca ab m cb ak r ck S H K := by
  obtain ⟨mid, h1, h2, h3, h4⟩ := h
  exact ⟨mid, h1, h2, h3.new k, h4.new k⟩
theorem OwnB.mono {w : World} {lo hi lo' hi' : Nat} {aa ab ak : Option Addr} {n m r ca cb ck : Nat} {S H : List Int} {K : List (Int × Int)} (h : OwnB w lo hi aa n ca ab m cb ak r ck S H K) (h1 : lo' ≤ lo) (h2 : hi ≤ hi') : OwnB w lo' hi' aa n ca ab m cb ak r ck S H K := by
  obtain ⟨mid, g1, g2, g3, g4⟩ := h
  exact ⟨mid, by omega, by omega, g3.mono h1 (Nat.le_refl _), g4.mono (Nat.le_refl _) h2⟩
theorem OwnB.s {w : World} {lo hi : Nat} {aa ab ak : Option Addr} {n m r ca cb ck : Nat} {S H : List Int} {K : List (Int × Int)} (h : OwnB w lo hi aa n ca ab m cb ak r ck S H K) : Ints w aa n ca S := by
  obtain ⟨_, _, _, g3, _⟩ := h
  exact g3.1.ints
theorem OwnB.h {w : World} {lo hi : Nat} {aa ab ak : Option Addr} {n m r ca cb ck : Nat} {S H : List Int} {K : List (Int × Int)} (h : OwnB w lo hi aa n ca ab m cb ak r ck S H K) : Ints w ab m cb H := by
  obtain ⟨_, _, _, g3, _⟩ := h
  exact g3.2.1.ints
theorem OwnB.k {w : World} {lo hi : Nat} {aa ab ak : Option Addr} {n m r ca cb ck : Nat} {S H : List Int} {K : List (Int × Int)} (h : OwnB w lo hi aa n ca ab m cb ak r ck S H K) : Ratios w ak r ck K := by
  obtain ⟨_, _, _, _, g4⟩ := h
  exact g4.reads

set_option maxRecDepth 100000 in
theorem toBrine_any (w : World) (aa ab ak : Option Addr) (n m r ca cb ck : Nat) (S H : List Int) (K : List (Int × Int)) (h1 : Ints w aa n ca S) (h2 : Ints w ab m cb H) (h3 : Ratios w ak r ck K) (hn : n ≤ 1048576) (hm : m ≤ 1048576) (hr : r ≤ 1048576) :
    Calls Try.prog 18 #[brV aa n ca ab m cb ak r ck] w fun e w' => ∃ sa sc sb sd sk se, e = .returned (brV sa n sc sb m sd sk r se) ∧ OwnB w' w.heap.size w'.heap.size sa n sc sb m sd sk r se S H K ∧ New w w' := by
  have G1 := Lib.hid h1; clear h1
  have G2 := Lib.hid h2; clear h2
  have G3 := Lib.hid h3; clear h3
  go_enter Try.func18, Try.ntmps18
  go_wp2_with fail
  refine (toVessels_any _ _ _ _ _ _ _ S H (G1.out.new (by repeat (first | with_reducible exact New.refl _ | with_reducible assumption | refine New.drewN ?_ _ | refine New.drew ?_ | refine New.alloc ?_ _ | refine New.setCell ?_ (by first | omega | (simp; omega) | (simp; done)) _ | (refine New.trans ?_ (by assumption))))) (G2.out.new (by repeat (first | with_reducible exact New.refl _ | with_reducible assumption | refine New.drewN ?_ _ | refine New.drew ?_ | refine New.alloc ?_ _ | refine New.setCell ?_ (by first | omega | (simp; omega) | (simp; done)) _ | (refine New.trans ?_ (by assumption))))) hn hm).mono ?_
  rintro e w1 ⟨sa, sc, sb, sd, rfl, o1, n1⟩
  obtain ⟨hc, hf, hz⟩ := bcell n1
  simp at hz
  have z0 : w.heap.size < w1.heap.size := by omega
  have z1 : w.heap.size + 1 < w1.heap.size := by omega
  have z2 : w.heap.size + 1 + 1 < w1.heap.size := by omega
  have N1 := Lib.hid n1; clear n1
  have O1 := Lib.hid o1; clear o1
  go_wp2_with fail
  refine (toRatioS_any _ _ _ _ K (G3.out.new ?_) hr).mono ?_
  · have n1 := N1.out
    exact (by repeat (first | with_reducible exact New.refl _ | with_reducible assumption | refine New.drewN ?_ _ | refine New.drew ?_ | refine New.alloc ?_ _ | refine New.setCell ?_ (by first | omega | (simp; omega) | (simp; done)) _ | (refine New.trans ?_ (by assumption))))
  rintro e w2 ⟨sk, se, rfl, o2, n2⟩
  obtain ⟨hc2, hf2, hz2⟩ := bcell n2
  simp at hz2
  have N2 := Lib.hid n2; clear n2
  have O2 := Lib.hid o2; clear o2
  go_wp2
  have n1 := N1.out
  have n2 := N2.out
  have o1 := O1.out
  have o2 := O2.out
  simp only [World.size_setCell, World.size_alloc] at o1 o2
  refine bodyPost_ret (v := brV sa n sc sb m sd sk r se) (by simp [results, Try.results18, go_sem, hc2, hc, z1]) rfl ⟨sa, sc, sb, sd, sk, se, rfl, ?_, ?_⟩
  · have o1' := (((((((o1.setCell (p := ⟨w.heap.size + 1 + 1, 0, none⟩) (.inl (by first | (simp; done) | (simp; omega))) (.slice sa n sc)).setCell (p := ⟨w.heap.size + 1 + 1, 1, none⟩) (.inl (by first | (simp; done) | (simp; omega))) (.slice sb m sd)).new n2).setCell (p := ⟨w.heap.size + 1 + 1, 2, none⟩) (.inl (by first | (simp; done) | (simp; omega))) (.slice sk r se)).setCell (p := ⟨w.heap.size + 1, 0, none⟩) (.inl (by first | (simp; done) | (simp; omega))) (.slice sa n sc)).setCell (p := ⟨w.heap.size + 1, 1, none⟩) (.inl (by first | (simp; done) | (simp; omega))) (.slice sb m sd)).setCell (p := ⟨w.heap.size + 1, 2, none⟩) (.inl (by first | (simp; done) | (simp; omega))) (.slice sk r se))
    have o2' := ((((o2.setCell (p := ⟨w.heap.size + 1 + 1, 2, none⟩) (.inl (by first | (simp; done) | (simp; omega))) (.slice sk r se)).setCell (p := ⟨w.heap.size + 1, 0, none⟩) (.inl (by first | (simp; done) | (simp; omega))) (.slice sa n sc)).setCell (p := ⟨w.heap.size + 1, 1, none⟩) (.inl (by first | (simp; done) | (simp; omega))) (.slice sb m sd)).setCell (p := ⟨w.heap.size + 1, 2, none⟩) (.inl (by first | (simp; done) | (simp; omega))) (.slice sk r se))
    refine ⟨w1.heap.size, by omega, by simp; omega, o1'.mono (by omega) (by omega), o2'.mono (by simp) (by simp)⟩
  · exact (by repeat (first | with_reducible exact New.refl _ | with_reducible assumption | refine New.drewN ?_ _ | refine New.drew ?_ | refine New.alloc ?_ _ | refine New.setCell ?_ (by first | omega | (simp; omega) | (simp; done)) _ | (refine New.trans ?_ (by assumption))))

theorem eqBrine_same (w : World) (aa ab ak ba bb bk : Option Addr) (n m r ca cb ck da db dk : Nat) (S H : List Int) (K : List (Int × Int)) (h1 : Ints w aa n ca S) (h2 : Ints w ab m cb H) (h3 : Ratios w ak r ck K) (k1 : Ints w ba n da S) (k2 : Ints w bb m db H) (k3 : Ratios w bk r dk K) :
    Calls Try.prog 20 #[brV aa n ca ab m cb ak r ck, brV ba n da bb m db bk r dk] w fun e w' => e = .returned (.bool true) ∧ New w w' := by
  have G1 := Lib.hid h1; clear h1
  have G2 := Lib.hid h2; clear h2
  have G3 := Lib.hid h3; clear h3
  have J1 := Lib.hid k1; clear k1
  have J2 := Lib.hid k2; clear k2
  have J3 := Lib.hid k3; clear k3
  go_enter Try.func20, Try.ntmps20
  go_wp2_with fail
  refine (eqVessels_any _ _ _ _ _ _ _ _ _ _ _ _ _ S H S H (G1.out.new (by repeat (first | with_reducible exact New.refl _ | with_reducible assumption | refine New.drewN ?_ _ | refine New.drew ?_ | refine New.alloc ?_ _ | refine New.setCell ?_ (by first | omega | (simp; omega) | (simp; done)) _ | (refine New.trans ?_ (by assumption))))) (G2.out.new (by repeat (first | with_reducible exact New.refl _ | with_reducible assumption | refine New.drewN ?_ _ | refine New.drew ?_ | refine New.alloc ?_ _ | refine New.setCell ?_ (by first | omega | (simp; omega) | (simp; done)) _ | (refine New.trans ?_ (by assumption))))) (J1.out.new (by repeat (first | with_reducible exact New.refl _ | with_reducible assumption | refine New.drewN ?_ _ | refine New.drew ?_ | refine New.alloc ?_ _ | refine New.setCell ?_ (by first | omega | (simp; omega) | (simp; done)) _ | (refine New.trans ?_ (by assumption))))) (J2.out.new (by repeat (first | with_reducible exact New.refl _ | with_reducible assumption | refine New.drewN ?_ _ | refine New.drew ?_ | refine New.alloc ?_ _ | refine New.setCell ?_ (by first | omega | (simp; omega) | (simp; done)) _ | (refine New.trans ?_ (by assumption)))))).mono ?_
  rintro e w1 ⟨rfl, n1⟩
  have a2 : w1.cell? ⟨w.heap.size, 2, none⟩ = some (.slice ak r ck) := n1.cell (by simp [go_sem])
  have b2 : w1.cell? ⟨w.heap.size + 1, 2, none⟩ = some (.slice bk r dk) := n1.cell (by simp [go_sem])
  have N1 := Lib.hid (show New w w1 from New.trans (by repeat (first | with_reducible exact New.refl _ | with_reducible assumption | refine New.drewN ?_ _ | refine New.drew ?_ | refine New.alloc ?_ _ | refine New.setCell ?_ (by first | omega | (simp; omega) | (simp; done)) _ | (refine New.trans ?_ (by assumption)))) n1); clear n1
  rw [show decide (S = S ∧ H = H) = true by simp]
  go_wp2_with fail
  refine (eqRatioS_same _ _ _ _ _ _ _ K (G3.out.new N1.out) (J3.out.new N1.out)).mono ?_
  rintro e w2 ⟨rfl, n2⟩
  have N2 := Lib.hid (N1.out.trans n2); clear n2
  go_wp2
  go_ret
  exact ⟨rfl, N2.out⟩
end Go.Proofs.Ytidklnpohgmnpaa
