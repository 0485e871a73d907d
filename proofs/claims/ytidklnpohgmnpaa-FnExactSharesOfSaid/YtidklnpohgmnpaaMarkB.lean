/- Marks written into brine, and read back. -/
import Derived.Test.YtidklnpohgmnpaaHelpB
namespace Go.Proofs.Ytidklnpohgmnpaa
open Go.RowKit

set_option maxRecDepth 100000 in
theorem markBrine_any (w : World) (lo hi : Nat) (aa ab ak : Option Addr) (n m r ca cb ck : Nat) (S H : List Int) (K : List (Int × Int)) (x : Int) (ho : OwnB w lo hi aa n ca ab m cb ak r ck S H K) (hw : hi ≤ w.heap.size) (h0 : 0 ≤ x) (h1 : x + n + m + 2 * (r : Int) ≤ 4611686018427387904) :
    Calls Try.prog 29 #[brV aa n ca ab m cb ak r ck, .int .i64 x] w fun e w' => e = .returned (.int .i64 (x + n + m + 2 * (r : Int))) ∧ OwnB w' lo hi aa n ca ab m cb ak r ck (marks x n) (marks (x + n) m) (marksRatio (x + n + m) r) ∧ Chg (fun b => lo ≤ b ∧ b < hi) w w' := by
  obtain ⟨mid, hl, hh, ov, ok⟩ := ho
  have OV := Lib.hid ov; clear ov
  have OK := Lib.hid ok; clear ok
  go_enter Try.func29, Try.ntmps29
  go_wp2_with fail
  refine (markVessels_any _ lo mid _ _ _ _ _ _ S H x (OV.out.new (by repeat (first | with_reducible exact New.refl _ | with_reducible assumption | refine New.drewN ?_ _ | refine New.drew ?_ | refine New.alloc ?_ _ | refine New.setCell ?_ (by first | omega | (simp; omega) | (simp; done)) _ | (refine New.trans ?_ (by assumption))))) h0 (by omega)).mono ?_
  rintro e w1 ⟨rfl, o1, k1⟩
  have b2 : w1.cell? ⟨w.heap.size, 2, none⟩ = some (.slice ak r ck) := k1.cell (by simp) (fun hp => by have := hp.2; simp only at this; omega)
  have O1 := Lib.hid o1; clear o1
  have K1 := Lib.hid k1; clear k1
  go_wp2_with fail
  refine (markRatioS_any _ mid hi _ _ _ K _ ((OK.out.new (w' := w.alloc _) (by repeat (first | with_reducible exact New.refl _ | with_reducible assumption | refine New.drewN ?_ _ | refine New.drew ?_ | refine New.alloc ?_ _ | refine New.setCell ?_ (by first | omega | (simp; omega) | (simp; done)) _ | (refine New.trans ?_ (by assumption))))).chg K1.out (fun b h1 h2 h => by omega)) (by omega) (by omega)).mono ?_
  rintro e w2 ⟨rfl, o2, k2⟩
  have O2 := Lib.hid o2; clear o2
  have BB := Lib.hid (fun b (h : r ≠ 0 ∧ blkOf ak = some b) => OK.out.bounds h.1 h.2)
  have K2 := Lib.hid (show Chg (fun b => mid ≤ b ∧ b < hi) w1 w2 from k2.mono fun b h => BB.out b h); clear k2
  go_wp2
  go_ret
  refine ⟨rfl, ⟨mid, hl, hh, O1.out.chg K2.out (fun b h1 h2 h => by omega), O2.out⟩, ?_⟩
  exact ((Chg.of_new (show New w (w.alloc _) from (by repeat (first | with_reducible exact New.refl _ | with_reducible assumption | refine New.drewN ?_ _ | refine New.drew ?_ | refine New.alloc ?_ _ | refine New.setCell ?_ (by first | omega | (simp; omega) | (simp; done)) _ | (refine New.trans ?_ (by assumption)))))).trans (K1.out.mono fun b h => ⟨h.1, by omega⟩)).trans (K2.out.mono fun b h => ⟨by omega, h.2⟩)
end Go.Proofs.Ytidklnpohgmnpaa
