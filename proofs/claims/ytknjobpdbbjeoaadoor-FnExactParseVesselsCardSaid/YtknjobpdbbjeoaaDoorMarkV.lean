/- Marks upon vessels, told block by block; vessels that a call has laid into a box. -/
import Derived.Test.YtknjobpdbbjeoaaDoorHelpV
namespace Go.Proofs.YtknjobpdbbjeoaaDoor
open Go.RowKit

theorem markVessels_fine (w : World) (lo hi : Nat) (aa ab : Option Addr) (n m ca cb : Nat) (S H : List Int) (x : Int) (ho : OwnV w lo hi aa n ca ab m cb S H) (h0 : 0 ≤ x) (h1 : x + n + m ≤ 4611686018427387904) :
    Calls Tryd.prog 7 #[.agg #[.slice aa n ca, .slice ab m cb], .int .i64 x] w fun e w' => e = .returned (.int .i64 (x + n + m)) ∧ OwnV w' lo hi aa n ca ab m cb (marks x n) (marks (x + n) m) ∧
      Chg (fun b => n ≠ 0 ∧ blkOf aa = some b ∨ m ≠ 0 ∧ blkOf ab = some b) w w' := by
  have HO := Lib.hid ho; clear ho
  go_enter Tryd.func7, Tryd.ntmps7
  go_wp2_with fail
  refine (markIntS_any _ lo hi _ _ _ S _ (HO.out.1.new (by repeat (first | with_reducible exact New.refl _ | with_reducible assumption | refine New.drewN ?_ _ | refine New.drew ?_ | refine New.alloc ?_ _ | refine New.setCell ?_ (by first | omega | (simp; omega) | (simp; done)) _ | (refine New.trans ?_ (by assumption))))) h0 (by omega)).mono ?_
  rintro e w1 ⟨rfl, o1, k1⟩
  have hlt : ∀ b, n ≠ 0 ∧ blkOf aa = some b → b < w.heap.size := fun b hb => HO.out.1.lt hb.1 hb.2
  have c1 : w1.cell? ⟨w.heap.size, 1, none⟩ = some (.slice ab m cb) := k1.cell (by simp) (fun hp => by have := hlt _ hp; simp at this)
  have O1 := Lib.hid o1; clear o1
  have K1 := Lib.hid k1; clear k1
  have HL := Lib.hid hlt; clear hlt
  go_wp2_with fail
  refine (markIntS_any _ lo hi _ _ _ H _ ?_ (by omega) (by omega)).mono ?_
  · refine (HO.out.2.1.new (w' := w.alloc _) (by repeat (first | with_reducible exact New.refl _ | with_reducible assumption | refine New.drewN ?_ _ | refine New.drew ?_ | refine New.alloc ?_ _ | refine New.setCell ?_ (by first | omega | (simp; omega) | (simp; done)) _ | (refine New.trans ?_ (by assumption))))).turned fun b hm hb hlt => K1.out.block b hlt ?_
    exact fun hp => HO.out.2.2 hp.1 hm (hp.2.trans hb.symm)
  rintro e w2 ⟨rfl, o2, k2⟩
  have O2 := Lib.hid o2; clear o2
  have K2 := Lib.hid k2; clear k2
  go_wp2
  go_ret
  refine ⟨rfl, ⟨?_, O2.out, HO.out.2.2⟩, ?_⟩
  · exact O1.out.turned fun b hn hb hlt => K2.out.block b hlt (fun hp => HO.out.2.2 hn hp.1 (hb.trans hp.2.symm))
  · exact ((Chg.of_new (by repeat (first | with_reducible exact New.refl _ | with_reducible assumption | refine New.drewN ?_ _ | refine New.drew ?_ | refine New.alloc ?_ _ | refine New.setCell ?_ (by first | omega | (simp; omega) | (simp; done)) _ | (refine New.trans ?_ (by assumption))))).trans (K1.out.mono fun b hp => .inl hp)).trans (K2.out.mono fun b hp => .inr hp)

theorem OwnV.b1 {w : World} {lo hi n m ca cb : Nat} {aa ab : Option Addr} {S H : List Int} (h : OwnV w lo hi aa n ca ab m cb S H) {b : Nat} (hn : n ≠ 0) (e : blkOf aa = some b) : lo ≤ b ∧ b < hi := h.1.bounds hn e
theorem OwnV.b2 {w : World} {lo hi n m ca cb : Nat} {aa ab : Option Addr} {S H : List Int} (h : OwnV w lo hi aa n ca ab m cb S H) {b : Nat} (hn : m ≠ 0) (e : blkOf ab = some b) : lo ≤ b ∧ b < hi := h.2.1.bounds hn e

/-- A pointer to a box of vessels, made since W0. -/
def CutV (W0 : World) (S H : List Int) (p : Value) (W : World) : Prop :=
  ∃ B sa n sc sb m sd, p = .pointer (some ⟨B, 0, none⟩) ∧ BoxV W0 W B sa n sc sb m sd S H
theorem CutV.mk {W0 W : World} {S H : List Int} {B : Nat} {sa sb : Option Addr} {n sc m sd : Nat} (h : BoxV W0 W B sa n sc sb m sd S H) : CutV W0 S H (.pointer (some ⟨B, 0, none⟩)) W :=
  ⟨B, sa, n, sc, sb, m, sd, rfl, h⟩
/-- The number of elements is the list's length. -/
theorem OwnV.len {w : World} {lo hi n m ca cb : Nat} {aa ab : Option Addr} {S H : List Int} (h : OwnV w lo hi aa n ca ab m cb S H) : n = S.length ∧ m = H.length := ⟨h.1.1, h.2.1.1⟩
end Go.Proofs.YtknjobpdbbjeoaaDoor
