/- ParseMove: the model's. -/
import Derived.Test.YtfkhpgbidgogdaaDoorEndI
namespace Go.Proofs.YtfkhpgbidgogdaaDoor
open Go.RowKit

theorem moveB_in {f t : Int} (h : moveB 5 f t = true) : (-1 ≤ f ∧ f < 5) ∧ (-1 ≤ t ∧ t < 5) := by
  have := moveB_iff.1 h
  exact ⟨this.1, this.2.1⟩
/-- What ParseMove comes to: the move whose text it is, or none. -/
def RetPM (w : World) (s : ByteArray) (e : Ending) (w' : World) : Prop :=
  ∃ (F T : Int) (B : Bool), e = .returned (.tuple #[.agg #[.int .i64 F, .int .i64 T], .bool B]) ∧ New w w' ∧
    ((B = true ∧ moveB 5 F T = true ∧ moveT F T = s) ∨ (B = false ∧ F = 0 ∧ T = 0 ∧ ∀ f t, moveB 5 f t = true → moveT f t ≠ s))
/-- A box of two numbers that waits for a result. -/
structure Two0 (w : World) (B : Nat) : Prop where
  r0 : w.cell? ⟨B, 0, none⟩ = some (.int .i64 0)
  r1 : w.cell? ⟨B, 1, none⟩ = some (.int .i64 0)
  f0 : w.frozen? ⟨B, 0, none⟩ = false
  f1 : w.frozen? ⟨B, 1, none⟩ = false
theorem Two0.new {w w' : World} {B : Nat} (h : Two0 w B) (k : New w w') : Two0 w' B := ⟨k.cell h.r0, k.cell h.r1, k.frz h.r0 h.f0, k.frz h.r1 h.f1⟩
theorem Two0.lt {w : World} {B : Nat} (h : Two0 w B) : B < w.heap.size := World.block_lt_of_cell? _ _ h.r0
theorem eqL (a b : ByteArray) : (a.toList == b.toList) = decide (a = b) := by
  rw [Lib.toList_data, Lib.toList_data, Bool.eq_iff_iff, beq_iff_eq, decide_eq_true_iff]
  exact ⟨fun h => ByteArray.ext (Array.ext' h), fun h => by rw [h]⟩

set_option maxRecDepth 100000 in
set_option maxHeartbeats 2000000 in
theorem sParseMove_any (w : World) (s : ByteArray) : Calls Tryd.prog 4 #[.string s] w (RetPM w s) := by
  go_enter Tryd.func4, Tryd.ntmps4
  go_upto_region 1 with fail
  obtain ⟨w1, hw1⟩ : ∃ u : World, u = w.alloc (.cells #[.int .i64 0, .int .i64 0] 23) := ⟨_, rfl⟩
  rw [← hw1]
  have N1 := Lib.hid (show New w w1 by rw [hw1]; exact (New.refl _).alloc _)
  have R1 := Lib.hid (show Two0 w1 w.heap.size by rw [hw1]; exact ⟨by simp [go_sem], by simp [go_sem], by simp [go_sem], by simp [go_sem]⟩)
  clear hw1
  obtain ⟨B, hB⟩ : ∃ B, B = w.heap.size := ⟨_, rfl⟩
  have BL : w.heap.size ≤ B := by omega
  rw [← hB] at R1 ⊢
  clear hB
  go_wp2_with fail
  go_loopw [4] (fun a wr => ∃ f : Int, -1 ≤ f ∧ f ≤ 5 ∧ a = .int .i64 f ∧ (∀ f' t', f' < f → moveB 5 f' t' = true → moveT f' t' ≠ s) ∧ Two0 wr B ∧ New w wr) (fun a _ => (5 - intOf a).toNat)
  case atStart => exact ⟨-1, by omega, by omega, rfl, fun f' t' h hb => by have := (moveB_in hb).1.1; omega, R1.out, N1.out⟩
  case round =>
    obtain ⟨f, hf0, hf5, rfl, hno, hr, hn⟩ := hrel
    clear R1 N1
    have NO := Lib.hid hno; clear hno
    have HR := Lib.hid hr; clear hr
    have NW := Lib.hid hn; clear hn
    by_cases hf : f < 5
    · have hwf : IntKind.i64.wrap (f + 1) = f + 1 := IntWalk.i64_in _ (by omega)
      go_wp2_with fail
      obtain ⟨w2, rfl⟩ : ∃ u : World, u = wr := ⟨_, rfl⟩
      go_loopw [5] (fun a wr => ∃ t : Int, -1 ≤ t ∧ t ≤ 5 ∧ a = .int .i64 t ∧ (∀ t', t' < t → moveB 5 f t' = true → moveT f t' ≠ s) ∧ Two0 wr B ∧ New w wr) (fun a _ => (5 - intOf a).toNat)
      case atStart => exact ⟨-1, by omega, by omega, rfl, fun t' h hb => by have := (moveB_in hb).2.1; omega, HR.out, NW.out⟩
      case round =>
        obtain ⟨t, ht0, ht5, rfl, hno2, hr, hn⟩ := hrel
        clear HR NW
        have NO2 := Lib.hid hno2; clear hno2
        have HR := Lib.hid hr; clear hr
        have NW := Lib.hid hn; clear hn
        by_cases ht : t < 5
        · have hwt : IntKind.i64.wrap (t + 1) = t + 1 := IntWalk.i64_in _ (by omega)
          have zB := HR.out.lt
          cases hb : moveB 5 f t
          case false =>
            have MB := Lib.hid hb; clear hb
            go_wp2_with fail
            refine (veMove_any _ 5 f t (by omega)).mono ?_
            rw [MB.out]
            rintro e w3 ⟨rfl, n3⟩
            have N3 := Lib.hid (show New wr w3 from New.trans (by repeat (first | with_reducible exact New.refl _ | with_reducible assumption | refine New.drewN ?_ _ | refine New.drew ?_ | refine New.alloc ?_ _ | refine New.setCell ?_ (by first | omega | (simp; omega) | (simp; done)) _ | (refine New.trans ?_ (by assumption)))) n3); clear n3
            go_wp2
            go_roundw
            case rel =>
              refine ⟨t + 1, by omega, by omega, by first | rfl | go_num, fun t' h hb => ?_, HR.out.new N3.out, NW.out.trans N3.out⟩
              by_cases e : t' = t
              · subst e; rw [MB.out] at hb; cases hb
              · exact NO2.out t' (by omega) hb
            case measure => show (5 - (t + 1)).toNat < (5 - t).toNat; omega
          case true =>
            have MT := Lib.hid (show moveT f t = endT f 116 ++ ⟨#[62]⟩ ++ endT t 100 from if_pos hb)
            have MB := Lib.hid hb; clear hb
            have e1 : ¬ 9223372036854775807 < (endT f 116).size + 1 := by rw [endT_size]; omega
            have e2 : ¬ 9223372036854775807 < (endT f 116).size + 1 + (endT t 100).size := by rw [endT_size, endT_size]; omega
            by_cases hs : endT f 116 ++ ⟨#[62]⟩ ++ endT t 100 = s
            · have HS := Lib.hid (show moveT f t = s by rw [MT.out]; exact hs)
              have hq : ((endT f 116 ++ ⟨#[62]⟩ ++ endT t 100).toList == s.toList) = true := by rw [eqL]; exact decide_eq_true hs
              clear hs
              go_wp2_with fail
              refine (veMove_any _ 5 f t (by omega)).mono ?_
              rw [MB.out]
              rintro e w3 ⟨rfl, n3⟩
              have c0 : w3.cell? ⟨wr.heap.size, 0, none⟩ = some (.int .i64 f) := n3.cell (by simp [go_sem])
              have c1 : w3.cell? ⟨wr.heap.size, 1, none⟩ = some (.int .i64 t) := n3.cell (by simp [go_sem])
              have N3 := Lib.hid (show New wr w3 from New.trans (by repeat (first | with_reducible exact New.refl _ | with_reducible assumption | refine New.drewN ?_ _ | refine New.drew ?_ | refine New.alloc ?_ _ | refine New.setCell ?_ (by first | omega | (simp; omega) | (simp; done)) _ | (refine New.trans ?_ (by assumption)))) n3); clear n3
              go_wp2_with fail
              refine (veEnd_any _ f 116 (by omega) (by omega)).mono ?_
              rintro e w4 ⟨rfl, n4⟩
              go_wp2_with fail
              refine (veEnd_any _ t 100 (by omega) (by omega)).mono ?_
              rintro e w5 ⟨rfl, n5⟩
              have d0 := n5.cell (n4.cell c0)
              have d1 := n5.cell (n4.cell c1)
              have N5 := Lib.hid (N3.out.trans (n4.trans n5)); clear n4 n5 c0 c1
              have HR5 := Lib.hid (HR.out.new N5.out)
              obtain ⟨r0, r1, f0, f1⟩ := HR5.out
              have z5 := N5.out.size
              go_wp2
              refine bodyPost_ret (v := .tuple #[.agg #[.int .i64 f, .int .i64 t], .bool true]) (by simp [results, Tryd.results4, go_sem, r0, r1]) rfl ⟨f, t, true, rfl, ((NW.out.trans N5.out).setCell (by dsimp only; omega) _).setCell (by dsimp only; omega) _, .inl ⟨rfl, MB.out, HS.out⟩⟩
            · have HS := Lib.hid (show moveT f t ≠ s by rw [MT.out]; exact hs)
              have hq : ((endT f 116 ++ ⟨#[62]⟩ ++ endT t 100).toList == s.toList) = false := by rw [eqL]; exact decide_eq_false hs
              clear hs
              go_wp2_with fail
              refine (veMove_any _ 5 f t (by omega)).mono ?_
              rw [MB.out]
              rintro e w3 ⟨rfl, n3⟩
              have c0 : w3.cell? ⟨wr.heap.size, 0, none⟩ = some (.int .i64 f) := n3.cell (by simp [go_sem])
              have c1 : w3.cell? ⟨wr.heap.size, 1, none⟩ = some (.int .i64 t) := n3.cell (by simp [go_sem])
              have N3 := Lib.hid (show New wr w3 from New.trans (by repeat (first | with_reducible exact New.refl _ | with_reducible assumption | refine New.drewN ?_ _ | refine New.drew ?_ | refine New.alloc ?_ _ | refine New.setCell ?_ (by first | omega | (simp; omega) | (simp; done)) _ | (refine New.trans ?_ (by assumption)))) n3); clear n3
              go_wp2_with fail
              refine (veEnd_any _ f 116 (by omega) (by omega)).mono ?_
              rintro e w4 ⟨rfl, n4⟩
              go_wp2_with fail
              refine (veEnd_any _ t 100 (by omega) (by omega)).mono ?_
              rintro e w5 ⟨rfl, n5⟩
              have d0 := n5.cell (n4.cell c0)
              have d1 := n5.cell (n4.cell c1)
              have N5 := Lib.hid (N3.out.trans (n4.trans n5)); clear n4 n5 c0 c1
              have HR5 := Lib.hid (HR.out.new N5.out)
              go_wp2
              go_roundw
              case rel =>
                refine ⟨t + 1, by omega, by omega, by first | rfl | go_num, fun t' h hb => ?_, HR5.out, NW.out.trans N5.out⟩
                by_cases e : t' = t
                · subst e; exact HS.out
                · exact NO2.out t' (by omega) hb
              case measure => show (5 - (t + 1)).toNat < (5 - t).toNat; omega
        · obtain rfl : t = 5 := by omega
          go_wp2_with fail
          go_roundw
          case rel =>
            refine ⟨f + 1, by omega, by omega, by first | rfl | go_num, fun f' t' h hb => ?_, HR.out, NW.out⟩
            by_cases e : f' = f
            · subst e; exact NO2.out t' (by have := (moveB_in hb).2.2; omega) hb
            · exact NO.out f' t' (by omega) hb
          case measure => show (5 - (f + 1)).toNat < (5 - f).toNat; omega
    · obtain rfl : f = 5 := by omega
      obtain ⟨r0, r1, f0, f1⟩ := HR.out
      have zB := HR.out.lt
      go_wp2
      refine bodyPost_ret (v := .tuple #[.agg #[.int .i64 0, .int .i64 0], .bool false]) (by simp [results, Tryd.results4, go_sem, r0, r1]) rfl ⟨0, 0, false, rfl, (NW.out.setCell (by dsimp only; omega) _).setCell (by dsimp only; omega) _, .inr ⟨rfl, rfl, rfl, fun f t hb => NO.out f t (by have := (moveB_in hb).1.2; omega) hb⟩⟩
end Go.Proofs.YtfkhpgbidgogdaaDoor
