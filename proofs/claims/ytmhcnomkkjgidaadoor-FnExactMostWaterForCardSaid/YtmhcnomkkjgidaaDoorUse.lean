/- Flights used by traffic: the state behind the first ships of a text, and the model's run. -/
import Derived.Test.YtmhcnomkkjgidaaDoorTra
import Derived.Test.YtmhcnomkkjgidaaDoorFlM
import Derived.Test.YtmhcnomkkjgidaaDoorNewS
import Derived.Test.YtmhcnomkkjgidaaDoorLkS
namespace Go.Proofs.YtmhcnomkkjgidaaDoor
open Go.RowKit

/-- The state behind the first i ships of a text. -/
def stT (L : List Int) (F : List Bool) (s : ByteArray) : Nat → LkS
  | 0 => newK F L.length
  | i + 1 => shipK L (stT L F s i) (byA s i == 117)
def stE (L : List Int) (F : List Bool) (s : ByteArray) : LkS := stT L F s s.size
/-- These are a flight and traffic. -/
def usB (L : List Int) (F : List Bool) (s : ByteArray) : Bool := fliB L F && trB s
theorem usB_iff {L : List Int} {F : List Bool} {s : ByteArray} : usB L F s = true ↔ fliB L F = true ∧ trB s = true := by unfold usB; rw [Bool.and_eq_true]
theorem trB_le {s : ByteArray} (h : trB s = true) : s.size ≤ 40 := by unfold trB at h; rw [Bool.and_eq_true, decide_eq_true_eq] at h; exact h.1
theorem stT_ok {L : List Int} {F : List Bool} (h : F.length = L.length) (s : ByteArray) (i : Nat) : LkOk L.length (stT L F s i) := by
  induction i with
  | zero => have o := LkOk.newK F; rw [h] at o; exact o
  | succ i ih => exact ih.shipTo L _ _

set_option maxRecDepth 100000 in
theorem loAsked_any (w : World) (aa ab : Option Addr) (n m ca cb : Nat) (L : List Int) (F : List Bool) (s : ByteArray) (hs : s.size ≤ 1048576) (h1 : Ints w aa n ca L) (h2 : Bools w ab m cb F) :
    Calls Tryd.prog 36 #[.agg #[.slice aa n ca, .slice ab m cb], .string s] w fun e w' => e = .returned (.bool (usB L F s)) ∧ New w w' := by
  have HA := Lib.hid h1; clear h1
  have HB := Lib.hid h2; clear h2
  cases hf : fliB L F
  case false =>
    have R := Lib.hid (show usB L F s = false by unfold usB; rw [hf]; rfl)
    have HF := Lib.hid hf; clear hf
    go_enter Tryd.func36, Tryd.ntmps36
    go_wp2_with fail
    refine (sGood_any _ _ _ _ _ _ _ L F (HA.out.new (by repeat (first | with_reducible exact New.refl _ | with_reducible assumption | refine New.drewN ?_ _ | refine New.drew ?_ | refine New.alloc ?_ _ | refine New.setCell ?_ (by first | omega | (simp; omega) | (simp; done)) _ | (refine New.trans ?_ (by assumption))))) (HB.out.new (by repeat (first | with_reducible exact New.refl _ | with_reducible assumption | refine New.drewN ?_ _ | refine New.drew ?_ | refine New.alloc ?_ _ | refine New.setCell ?_ (by first | omega | (simp; omega) | (simp; done)) _ | (refine New.trans ?_ (by assumption)))))).mono ?_
    rintro e w1 ⟨rfl, n1⟩
    rw [HF.out]
    go_wp2
    go_ret
    exact ⟨ret_bool R.out.symm, New.trans (by repeat (first | with_reducible exact New.refl _ | with_reducible assumption | refine New.drewN ?_ _ | refine New.drew ?_ | refine New.alloc ?_ _ | refine New.setCell ?_ (by first | omega | (simp; omega) | (simp; done)) _ | (refine New.trans ?_ (by assumption)))) n1⟩
  case true =>
    have R := Lib.hid (show usB L F s = trB s by unfold usB; rw [hf]; rfl)
    have HF := Lib.hid hf; clear hf
    go_enter Tryd.func36, Tryd.ntmps36
    go_wp2_with fail
    refine (sGood_any _ _ _ _ _ _ _ L F (HA.out.new (by repeat (first | with_reducible exact New.refl _ | with_reducible assumption | refine New.drewN ?_ _ | refine New.drew ?_ | refine New.alloc ?_ _ | refine New.setCell ?_ (by first | omega | (simp; omega) | (simp; done)) _ | (refine New.trans ?_ (by assumption))))) (HB.out.new (by repeat (first | with_reducible exact New.refl _ | with_reducible assumption | refine New.drewN ?_ _ | refine New.drew ?_ | refine New.alloc ?_ _ | refine New.setCell ?_ (by first | omega | (simp; omega) | (simp; done)) _ | (refine New.trans ?_ (by assumption)))))).mono ?_
    rintro e w1 ⟨rfl, n1⟩
    rw [HF.out]
    have N1 := Lib.hid (show New w w1 from New.trans (by repeat (first | with_reducible exact New.refl _ | with_reducible assumption | refine New.drewN ?_ _ | refine New.drew ?_ | refine New.alloc ?_ _ | refine New.setCell ?_ (by first | omega | (simp; omega) | (simp; done)) _ | (refine New.trans ?_ (by assumption)))) n1); clear n1
    go_wp2_with fail
    refine (loTraffic_any _ s hs).mono ?_
    rintro e w2 ⟨rfl, rfl⟩
    go_wp2
    go_ret
    exact ⟨ret_bool R.out.symm, N1.out⟩

set_option maxRecDepth 100000 in
set_option maxHeartbeats 1000000 in
theorem loRun_any (w : World) (aa ab : Option Addr) (n m ca cb : Nat) (L : List Int) (F : List Bool) (s : ByteArray) (hs : s.size ≤ 40) (h1 : Ints w aa n ca L) (h2 : Bools w ab m cb F) (hf : fliB L F = true) :
    Calls Tryd.prog 38 #[.agg #[.slice aa n ca, .slice ab m cb], .string s] w fun e w' => ∃ B bf cf bc bn, e = .returned (.pointer (some ⟨B, 0, none⟩)) ∧
      LkBox w' B aa ca bf cf bc (L.length + 1) bn L.length L (stE L F s) ∧ (w.heap.size ≤ B ∧ w.heap.size ≤ bf ∧ w.heap.size ≤ bc ∧ w.heap.size ≤ bn) ∧ New w w' := by
  have hl := (fliB_iff.1 hf).1
  have HA := Lib.hid h1; clear h1
  have HB := Lib.hid h2; clear h2
  have HF := Lib.hid hf; clear hf
  go_enter Tryd.func38, Tryd.ntmps38
  go_wp2_with fail
  refine (sNew_any _ _ _ _ _ _ _ L F (HA.out.new (by repeat (first | with_reducible exact New.refl _ | with_reducible assumption | refine New.drewN ?_ _ | refine New.drew ?_ | refine New.alloc ?_ _ | refine New.setCell ?_ (by first | omega | (simp; omega) | (simp; done)) _ | (refine New.trans ?_ (by assumption))))) (HB.out.new (by repeat (first | with_reducible exact New.refl _ | with_reducible assumption | refine New.drewN ?_ _ | refine New.drew ?_ | refine New.alloc ?_ _ | refine New.setCell ?_ (by first | omega | (simp; omega) | (simp; done)) _ | (refine New.trans ?_ (by assumption))))) HF.out).mono ?_
  rintro e w1 ⟨B, bf, cf, bc, bn, rfl, bx, lo, n1⟩
  (try simp only [World.size_alloc] at lo)
  have BX := Lib.hid bx; clear bx
  have z1 := n1.size
  (try simp only [World.size_alloc] at z1)
  have N1 := Lib.hid (show New w w1 from New.trans (by repeat (first | with_reducible exact New.refl _ | with_reducible assumption | refine New.drewN ?_ _ | refine New.drew ?_ | refine New.alloc ?_ _ | refine New.setCell ?_ (by first | omega | (simp; omega) | (simp; done)) _ | (refine New.trans ?_ (by assumption)))) n1); clear n1
  go_wp2_with fail
  go_loopw [6] (fun a wr => ∃ i : Nat, i ≤ s.size ∧ a = .int .i64 i ∧ LkBox wr B aa ca bf cf bc (L.length + 1) bn L.length L (stT L F s i) ∧ New w wr) (fun a _ => (s.size - (intOf a).toNat))
  case atStart => exact ⟨0, Nat.zero_le _, rfl, BX.out, N1.out⟩
  case round =>
    obtain ⟨i, hi, rfl, hbx, hn⟩ := hrel
    have BW := Lib.hid hbx; clear hbx
    have NW := Lib.hid hn; clear hn
    clear BX N1
    by_cases hlt : i < s.size
    · have hg := getD_toNat s i hlt
      have hb := (byA s i).toNat_lt
      have hup : (((byA s i).toNat : Int) == 117) = (byA s i == 117) := by
        rw [Bool.eq_iff_iff]; simp only [beq_iff_eq]
        exact ⟨fun e => UInt8.toNat_inj.1 (by have : (byA s i).toNat = 117 := by omega
                                              rw [this]; rfl), fun e => by rw [e]; rfl⟩
      go_wp2_with fail
      refine (sShip_any _ _ _ _ _ _ _ _ _ _ _ _ (byA s i == 117) BW.out hl.2).mono ?_
      rintro e w2 ⟨rfl, b2, k2⟩
      have B2 := Lib.hid b2; clear b2
      have N2 := Lib.hid (show New w w2 from k2.new NW.out (by rintro j (h | h | h) <;> omega)); clear k2
      go_wp2
      go_roundw
      case rel => exact ⟨i + 1, by omega, by go_num, by exact B2.out, N2.out⟩
      case measure => simp [intOf]; omega
    · obtain rfl : i = s.size := by omega
      go_wp2
      go_ret
      exact ⟨B, bf, cf, bc, bn, rfl, BW.out, by omega, NW.out⟩
end Go.Proofs.YtmhcnomkkjgidaaDoor
