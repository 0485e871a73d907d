/- The model's tick of a row, and what a row holds. -/
import Derived.Test.YtfdgdgiblealfaaWeirS
import Derived.Test.YtfdgdgiblealfaaRows2b
namespace Go.Proofs.Ytfdgdgiblealfaa
open Go.RowKit

theorem weHeld_any (w : World) (aa : Option Addr) (n ca : Nat) (l : List (Int × Int × Int)) (ha : Basins w aa n ca l) (hl : RowOk l) :
    Calls Try.prog 33 #[.slice aa n ca] w fun e w' => e = .returned (.int .i64 (heldS l)) ∧ New w w' := by
  have HL := Lib.hid ha.1
  have hm := ha.2.2.1
  have n6 : n ≤ 6 := by have := ha.1; have := hl.2.1; omega
  have HA := Lib.hid ha; clear ha
  have HR := Lib.hid hl; clear hl
  go_enter Try.func33, Try.ntmps33
  go_wp2
  go_loopw [3, 8] (fun y i wr => ∃ k : Nat, k ≤ n ∧ i = .int .i64 k ∧ y = .int .i64 (heldK l k) ∧ New w wr) (fun _ i _ => n - (intOf i).toNat)
  case atStart => exact ⟨0, Nat.zero_le _, rfl, rfl, New.refl _⟩
  case round =>
    obtain ⟨k, hk, rfl, rfl, hnw⟩ := hrel
    have NW := Lib.hid hnw; clear hnw
    by_cases hlt : k < n
    · obtain ⟨bx, ox, rfl, g0, g1, g2⟩ := (HA.out.new NW.out).2.2.2.1 k hlt
      have h1 := heldK_bd HR.out k (by have := HL.out; omega)
      have h2 := HR.out.2.2 k (by have := HL.out; omega)
      unfold BasOk at h2
      go_wp2
      go_roundw
      case rel => exact ⟨k + 1, by omega, by go_num, rfl, NW.out.trans (by repeat (first | with_reducible exact New.refl _ | with_reducible assumption | refine New.drewN ?_ _ | refine New.drew ?_ | refine New.alloc ?_ _ | refine New.setCell ?_ (by first | omega | (simp; omega) | (simp; done)) _ | (refine New.trans ?_ (by assumption))))⟩
      case measure => simp [intOf]; omega
    · obtain rfl : k = n := by omega
      go_wp2
      go_ret
      exact ⟨ret_int (by unfold heldS; rw [HL.out]), NW.out⟩

/-- Two rows that grow side by side: basins and numbers. -/
structure TwoR (w0 wr : World) (vo : Value) (n : Nat) (lo : List Value) (vl : Value) (m : Nat) (ll : List Value) : Prop where
  new : New w0 wr
  outs : wr.ownsRow w0.heap.size 43 3 vo n lo
  levs : wr.ownsRow w0.heap.size 3 1 vl m ll
  apart : ∀ g, vl.ownBlock = some g → vo.ownBlock ≠ some g
theorem TwoR.kept {w0 wr w' : World} {n m : Nat} {vo vl : Value} {lo ll : List Value} (h : TwoR w0 wr vo n lo vl m ll) (k : New wr w') : TwoR w0 w' vo n lo vl m ll :=
  ⟨h.new.trans k, ownsRow_new h.outs k, ownsRow_new h.levs k, h.apart⟩
theorem TwoR.growO {w0 wr w' : World} {n m n' cap g : Nat} {vo vl : Value} {lo ll lo' : List Value} (h : TwoR w0 wr vo n lo vl m ll)
    (ho : w'.ownsRow w0.heap.size 43 3 (.slice (some ⟨g, 0, none⟩) n' cap) n' lo') (hg : wr.grownBy w' vo.ownBlock) (hb : vo.ownBlock = some g ∨ g = wr.heap.size) : TwoR w0 w' (.slice (some ⟨g, 0, none⟩) n' cap) n' lo' vl m ll :=
  ⟨New.grown h.new h.outs (Nat.le_refl _) hg, ho, rows_beside h.levs h.apart hg, rows_apart h.levs h.apart hb⟩
theorem TwoR.growL {w0 wr w' : World} {n m m' cap g : Nat} {vo vl : Value} {lo ll ll' : List Value} (h : TwoR w0 wr vo n lo vl m ll)
    (ho : w'.ownsRow w0.heap.size 3 1 (.slice (some ⟨g, 0, none⟩) m' cap) m' ll') (hg : wr.grownBy w' vl.ownBlock) (hb : vl.ownBlock = some g ∨ g = wr.heap.size) : TwoR w0 w' vo n lo (.slice (some ⟨g, 0, none⟩) m' cap) m' ll' :=
  have ap : ∀ g, vo.ownBlock = some g → vl.ownBlock ≠ some g := fun g e e' => h.apart g e' e
  ⟨New.grown h.new h.levs (Nat.le_refl _) hg, rows_beside h.outs ap hg, ho, fun q e e' => rows_apart h.outs ap hb q e' e⟩

theorem Try.infoBas : (Try.prog.info? 43).map (fun i => (i.zero, i.size, i.bytes)) = some (some (.agg #[.int .i64 0, .int .i64 0, .int .i64 0]), 3, 24) := by kernel_rfl
end Go.Proofs.Ytfdgdgiblealfaa
