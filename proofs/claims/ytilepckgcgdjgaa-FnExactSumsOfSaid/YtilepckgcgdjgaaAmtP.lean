/- The plan behind which an amount is measured: the program's. -/
import Derived.Test.YtilepckgcgdjgaaAmtI
import Derived.Deep.QuietTactic
import Derived.BigQuiet
namespace Go.Proofs.Ytilepckgcgdjgaa
open Go.RowKit Go.Maps

theorem heldAt_any (w : World) (B gp T cp k n ca : Nat) (aa : Option Addr) (c0 : w.cell? ⟨B, 0, none⟩ = some (.slice aa n ca)) (c1 : w.cell? ⟨B, 1, none⟩ = some (.slice (some ⟨gp, 0, none⟩) T cp)) (hk : k < T) (hn : n ≤ 5) :
    Calls Try.prog 37 #[.pointer (some ⟨B, 0, none⟩), .int .i64 k] w fun e w' => e = .returned (.slice (some ⟨gp, k * 7, none⟩) n 5) ∧ New w w' := by
  have kI : (k : Int) < (T : Int) := by omega
  have nI : (n : Int) ≤ 5 := by omega
  have zB : B < w.heap.size := World.block_lt_of_cell? _ _ c0
  go_enter Try.func37, Try.ntmps37
  go_wp2
  go_quiet (fail)
  go_wp2
  go_ret
  exact ⟨rfl, (New.refl _).drewN _⟩
theorem ints_at {w : World} {g o n : Nat} {A : List Int} {p s : Value} (hr : w.rangeAt g o (place7 A p s)) (hn : n = A.length) (h5 : n ≤ 5) : Ints w (some ⟨g, o, none⟩) n 5 A := by
  refine ⟨hn, h5, by omega, fun j hj => ⟨g, o, rfl, ?_⟩, fun e => by cases e⟩
  refine hr j _ ?_
  match j, (show j < 5 by omega) with
  | 0, _ => rfl
  | 1, _ => rfl
  | 2, _ => rfl
  | 3, _ => rfl
  | 4, _ => rfl
theorem measures_any (w : World) (B gp T cp k n ca : Nat) (aa : Option Addr) (A : List Int) (p s : Value) (x : Int) (c0 : w.cell? ⟨B, 0, none⟩ = some (.slice aa n ca)) (c1 : w.cell? ⟨B, 1, none⟩ = some (.slice (some ⟨gp, 0, none⟩) T cp)) (hr : w.rangeAt gp (k * 7) (place7 A p s)) (hk : k < T) (hn : n ≤ 5) (hA : n = A.length) :
    Calls Try.prog 71 #[.pointer (some ⟨B, 0, none⟩), .int .i64 k, .int .i64 x] w fun e w' => e = .returned (.bool (decide (x ∈ A))) ∧ New w w' := by
  have IA := Lib.hid (ints_at hr hA hn); clear hr hA
  have C0 := Lib.hid c0; clear c0
  have C1 := Lib.hid c1; clear c1
  go_enter Try.func71, Try.ntmps71
  go_wp2_with fail
  refine (heldAt_any _ B gp T cp k n ca aa C0.out C1.out hk hn).mono ?_
  rintro e w1 ⟨rfl, n1⟩
  have N1 := Lib.hid n1; clear n1
  go_wp2_with fail
  refine (contains_any _ _ _ _ A x (IA.out.new N1.out) (by omega)).mono ?_
  rintro e w2 ⟨rfl, n2⟩
  have N2 := Lib.hid n2; clear n2
  go_wp2
  go_ret
  exact ⟨rfl, N1.out.trans N2.out⟩

theorem place_at {w : World} {base : Nat} {L : List Node} {vp : Value} {P St : Nat → Value} (h : w.ownsRow base 70 7 vp L.length (flat7 (hA L) P St L.length)) {k : Nat} (hk : k < L.length) :
    ∃ g cap, vp = .slice (some ⟨g, 0, none⟩) L.length cap ∧ ∀ j, j < L.length → w.rangeAt g (j * 7) (place7 (L[j]?.getD dN).h (P j) (St j)) := by
  obtain ⟨g, cap, e, _, _, _, hr⟩ := own_read h (show 0 < L.length by omega)
  refine ⟨g, cap, e, fun j hj q v hv => ?_⟩
  have hq : q < 7 := by
    have := (List.getElem?_eq_some_iff.1 hv).1
    rw [place7_length] at this
    exact this
  refine (hr (j * 7 + q) v (by omega) ?_).1
  rw [flat7_get _ _ _ hj q hq]
  exact hv
theorem range_new {w w' : World} {g o : Nat} {cs : List Value} (h : w.rangeAt g o cs) (k : New w w') : w'.rangeAt g o cs := fun j v hv => k.cell (h j v hv)
end Go.Proofs.Ytilepckgcgdjgaa
