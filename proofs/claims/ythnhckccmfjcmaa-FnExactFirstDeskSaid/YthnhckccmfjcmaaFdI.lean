/- FirstDesk: both sides, and the law's helpers over desks that mark what they hold. -/
import Derived.Test.YthnhckccmfjcmaaDeskF
import Derived.Laws.Rows
namespace Go.Proofs.Ythnhckccmfjcmaa
open Go.RowKit

theorem pair_row {w : World} {b : Nat} {x y : Int} (h : w.heap[b]? = some (.cells #[.int .i64 x, .int .i64 y] 3 (0, 0))) (lo hi : Nat) (h1 : lo ≤ b) (h2 : b < hi) : Own w lo hi (some ⟨b, 0, none⟩) 2 2 [x, y] :=
  ⟨rfl, Nat.le_refl _, by omega, .inr ⟨b, fun j => .int .i64 ([x, y][j]?.getD 0), rfl, h1, h2, ⟨_, h, rfl, fun i hi' => by
    match i, hi' with
    | 0, _ => rfl
    | 1, _ => rfl⟩, fun j hj => rfl⟩⟩

theorem heap_at0 {w : World} {o : Obj} {B : Nat} (hB : w.heap.size = B) : (w.alloc o).heap[B]? = some o := by
  subst hB
  show (w.heap.push o)[w.heap.size]? = some o
  simp
theorem heap_at1 {w : World} {o o' : Obj} {B : Nat} (hB : w.heap.size = B) : ((w.alloc o).alloc o').heap[B]? = some o := by
  subst hB
  show ((w.heap.push o).push o')[w.heap.size]? = some o
  rw [Array.getElem?_push_lt (by simp)]
  simp

theorem sFirstDesk_any (w : World) :
    Calls Try.prog 5 #[] w fun e w' => ∃ sa sb, e = .returned (.agg #[.slice sa 2 2, .slice sb 2 2, .int .i64 0]) ∧ OwnV w' w.heap.size w'.heap.size sa 2 2 sb 2 2 [3, 5] [0, 5] ∧ New w w' := by
  go_enter Try.func5, Try.ntmps5
  go_wp2
  refine bodyPost_ret (v := .agg #[.slice (some ⟨w.heap.size + 1, 0, none⟩) 2 2, .slice (some ⟨w.heap.size + 1 + 1, 0, none⟩) 2 2, .int .i64 0]) (by simp [results, Try.results5, go_sem]) rfl ⟨_, _, rfl, ⟨pair_row (heap_at1 (by simp)) _ _ (by omega) (by simp), pair_row (heap_at0 (by simp)) _ _ (by omega) (by simp), fun _ _ e => absurd (Option.some.inj (show some (w.heap.size + 1) = some (w.heap.size + 1 + 1) from e)) (by omega)⟩, (by repeat (first | with_reducible exact New.refl _ | with_reducible assumption | refine New.drewN ?_ _ | refine New.drew ?_ | refine New.alloc ?_ _ | refine New.setCell ?_ (by first | omega | (simp; omega) | (simp; done)) _ | (refine New.trans ?_ (by assumption))))⟩

theorem iFirstDesk_any (w : World) :
    Calls Try.prog 6 #[] w fun e w' => ∃ sa sb, e = .returned (.agg #[.slice sa 2 2, .slice sb 2 2, .int .i64 0]) ∧ OwnV w' w.heap.size w'.heap.size sa 2 2 sb 2 2 [3, 5] [0, 5] ∧ New w w' := by
  go_enter Try.func6, Try.ntmps6
  go_wp2
  refine bodyPost_ret (v := .agg #[.slice (some ⟨w.heap.size + 1, 0, none⟩) 2 2, .slice (some ⟨w.heap.size + 1 + 1, 0, none⟩) 2 2, .int .i64 0]) (by simp [results, Try.results6, go_sem]) rfl ⟨_, _, rfl, ⟨pair_row (heap_at1 (by simp)) _ _ (by omega) (by simp), pair_row (heap_at0 (by simp)) _ _ (by omega) (by simp), fun _ _ e => absurd (Option.some.inj (show some (w.heap.size + 1) = some (w.heap.size + 1 + 1) from e)) (by omega)⟩, (by repeat (first | with_reducible exact New.refl _ | with_reducible assumption | refine New.drewN ?_ _ | refine New.drew ?_ | refine New.alloc ?_ _ | refine New.setCell ?_ (by first | omega | (simp; omega) | (simp; done)) _ | (refine New.trans ?_ (by assumption))))⟩

theorem markDesk_any (w : World) (lo hi : Nat) (aa ab : Option Addr) (n m ca cb : Nat) (S H : List Int) (k x : Int) (ho : OwnV w lo hi aa n ca ab m cb S H) (h0 : 0 ≤ x) (h1 : x + n + m ≤ 4611686018427387904) :
    Calls Try.prog 8 #[.agg #[.slice aa n ca, .slice ab m cb, .int .i64 k], .int .i64 x] w fun e w' => e = .returned (.int .i64 (x + n + m)) ∧ OwnV w' lo hi aa n ca ab m cb (marks x n) (marks (x + n) m) ∧ Chg (fun b => lo ≤ b ∧ b < hi) w w' := by
  have HO := Lib.hid ho; clear ho
  go_enter Try.func8, Try.ntmps8
  go_wp2_with fail
  refine (markVessels_any _ lo hi _ _ _ _ _ _ S H _ (HO.out.new (by repeat (first | with_reducible exact New.refl _ | with_reducible assumption | refine New.drewN ?_ _ | refine New.drew ?_ | refine New.alloc ?_ _ | refine New.setCell ?_ (by first | omega | (simp; omega) | (simp; done)) _ | (refine New.trans ?_ (by assumption))))) h0 h1).mono ?_
  rintro e w1 ⟨rfl, o1, k1⟩
  have O1 := Lib.hid o1; clear o1
  have K1 := Lib.hid k1; clear k1
  go_wp2
  go_ret
  exact ⟨rfl, O1.out, (Chg.of_new (by repeat (first | with_reducible exact New.refl _ | with_reducible assumption | refine New.drewN ?_ _ | refine New.drew ?_ | refine New.alloc ?_ _ | refine New.setCell ?_ (by first | omega | (simp; omega) | (simp; done)) _ | (refine New.trans ?_ (by assumption))))).trans K1.out⟩

theorem heldDesk_any (w : World) (aa ab : Option Addr) (n m ca cb : Nat) (k x : Int) (ha : Ints w aa n ca (marks x n)) (hb : Ints w ab m cb (marks (x + n) m)) (h0 : 0 ≤ x) (h1 : x + n + m ≤ 4611686018427387904) :
    Calls Try.prog 9 #[.agg #[.slice aa n ca, .slice ab m cb, .int .i64 k], .int .i64 x] w fun e w' => e = .returned (.int .i64 (x + n + m)) ∧ New w w' := by
  have HA := Lib.hid ha; clear ha
  have HB := Lib.hid hb; clear hb
  go_enter Try.func9, Try.ntmps9
  go_wp2_with fail
  refine (heldVessels_any _ _ _ _ _ _ _ _ (HA.out.new (by repeat (first | with_reducible exact New.refl _ | with_reducible assumption | refine New.drewN ?_ _ | refine New.drew ?_ | refine New.alloc ?_ _ | refine New.setCell ?_ (by first | omega | (simp; omega) | (simp; done)) _ | (refine New.trans ?_ (by assumption))))) (HB.out.new (by repeat (first | with_reducible exact New.refl _ | with_reducible assumption | refine New.drewN ?_ _ | refine New.drew ?_ | refine New.alloc ?_ _ | refine New.setCell ?_ (by first | omega | (simp; omega) | (simp; done)) _ | (refine New.trans ?_ (by assumption))))) h0 h1).mono ?_
  rintro e w1 ⟨rfl, n1⟩
  have n1' : New w w1 := New.trans (by repeat (first | with_reducible exact New.refl _ | with_reducible assumption | refine New.drewN ?_ _ | refine New.drew ?_ | refine New.alloc ?_ _ | refine New.setCell ?_ (by first | omega | (simp; omega) | (simp; done)) _ | (refine New.trans ?_ (by assumption)))) n1
  have N1 := Lib.hid n1'; clear n1 n1'
  have e2 : ¬ x + (n : Int) + (m : Int) < 0 := by omega
  go_wp2
  go_ret
  exact ⟨rfl, N1.out⟩
end Go.Proofs.Ythnhckccmfjcmaa
