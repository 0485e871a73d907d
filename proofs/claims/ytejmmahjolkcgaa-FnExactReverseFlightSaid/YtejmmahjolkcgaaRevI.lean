/- The program's ReverseFlight. -/
import Derived.Test.YtejmmahjolkcgaaRevS
import Derived.Test.YtejmmahjolkcgaaUnI
namespace Go.Proofs.Ytejmmahjolkcgaa
open Go.RowKit

set_option maxRecDepth 100000 in
set_option maxHeartbeats 1000000 in
theorem iReverseFlight_any (w : World) (aa ab : Option Addr) (n m ca cb : Nat) (L : List Int) (F : List Bool) (h1 : Ints w aa n ca L) (h2 : Bools w ab m cb F) : Calls Try.prog 22 #[.agg #[.slice aa n ca, .slice ab m cb]] w (RetFl w (revM L F).1 (revM L F).2 (fliB L F)) := by
  have hn := h1.len
  have hm := h2.len
  have HA := Lib.hid h1; clear h1
  have HB := Lib.hid h2; clear h2
  cases hf : fliB L F
  case false =>
    rw [revM_no hf]
    have HF := Lib.hid hf; clear hf hn hm
    go_enter Try.func22, Try.ntmps22
    go_wp2_with fail
    refine (iIsFlight_any _ _ _ _ _ _ _ L F (HA.out.new (by repeat (first | with_reducible exact New.refl _ | with_reducible assumption | refine New.drewN ?_ _ | refine New.drew ?_ | refine New.alloc ?_ _ | refine New.setCell ?_ (by first | omega | (simp; omega) | (simp; done)) _ | (refine New.trans ?_ (by assumption))))) (HB.out.new (by repeat (first | with_reducible exact New.refl _ | with_reducible assumption | refine New.drewN ?_ _ | refine New.drew ?_ | refine New.alloc ?_ _ | refine New.setCell ?_ (by first | omega | (simp; omega) | (simp; done)) _ | (refine New.trans ?_ (by assumption)))))).mono ?_
    rintro e w1 ⟨rfl, n1⟩
    have RS : Hid (Res2 w1 (w.heap.size + 1)) := Lib.hid ⟨n1.cell (by simp [go_sem]), n1.cell (by simp [go_sem]), n1.frz (v := .slice none 0 0) (by simp [go_sem]) (by simp [go_sem]), n1.frz (v := .slice none 0 0) (by simp [go_sem]) (by simp [go_sem])⟩
    have NW := Lib.hid (show New w w1 from New.trans (by repeat (first | with_reducible exact New.refl _ | with_reducible assumption | refine New.drewN ?_ _ | refine New.drew ?_ | refine New.alloc ?_ _ | refine New.setCell ?_ (by first | omega | (simp; omega) | (simp; done)) _ | (refine New.trans ?_ (by assumption)))) n1); clear n1
    rw [HF.out]
    obtain ⟨r0, r1, f0, f1⟩ := RS.out
    go_wp2
    refine bodyPost_ret (v := .tuple #[.agg #[.slice none 0 0, .slice none 0 0], .bool false]) (by simp [results, Try.results22, go_sem, r0, r1]) rfl ⟨none, 0, 0, none, 0, 0, rfl, OwnF.nil _ _ _, (NW.out.setCell (by first | omega | (simp; omega) | (simp; done)) _).setCell (by first | omega | (simp; omega) | (simp; done)) _⟩
  case true =>
    obtain ⟨hl1, hl2, _⟩ := fliB_iff.1 hf
    have R : revM L F = (L.reverse, rvL F) := by unfold revM; rw [if_pos hf]
    rw [R]
    clear R
    have hmn : m = n := by omega
    subst hmn
    have k1 : 1 ≤ m := by omega
    have k6 : m ≤ 6 := by omega
    have HN := Lib.hid hn; have HM := Lib.hid hm
    have HF := Lib.hid hf; clear hf hn hm hl1 hl2
    have hfd : ∀ (w : World) (a b c d : Option Addr) (a1 a2 b1 b2 c1 c2 d1 d2 : Nat), (Instr.field 59 (.agg #[.slice a a1 a2, .slice b b1 b2, .slice c c1 c2, .slice d d1 d2]) 0).run Try.prog w = .ok (.agg #[.slice a a1 a2, .slice b b1 b2]) w := fun _ _ _ _ _ _ _ _ _ _ _ _ _ => by kernel_rfl
    go_enter Try.func22, Try.ntmps22
    go_wp2_with fail
    refine (iIsFlight_any _ _ _ _ _ _ _ L F (HA.out.new (by repeat (first | with_reducible exact New.refl _ | with_reducible assumption | refine New.drewN ?_ _ | refine New.drew ?_ | refine New.alloc ?_ _ | refine New.setCell ?_ (by first | omega | (simp; omega) | (simp; done)) _ | (refine New.trans ?_ (by assumption))))) (HB.out.new (by repeat (first | with_reducible exact New.refl _ | with_reducible assumption | refine New.drewN ?_ _ | refine New.drew ?_ | refine New.alloc ?_ _ | refine New.setCell ?_ (by first | omega | (simp; omega) | (simp; done)) _ | (refine New.trans ?_ (by assumption)))))).mono ?_
    rintro e w1 ⟨rfl, n1⟩
    have a0 : w1.cell? ⟨w.heap.size, 0, none⟩ = some (.slice aa m ca) := n1.cell (by simp [go_sem])
    have a1 : w1.cell? ⟨w.heap.size, 1, none⟩ = some (.slice ab m cb) := n1.cell (by simp [go_sem])
    have RS : Hid (Res2 w1 (w.heap.size + 1)) := Lib.hid ⟨n1.cell (by simp [go_sem]), n1.cell (by simp [go_sem]), n1.frz (v := .slice none 0 0) (by simp [go_sem]) (by simp [go_sem]), n1.frz (v := .slice none 0 0) (by simp [go_sem]) (by simp [go_sem])⟩
    have N1 := Lib.hid (show New w w1 from New.trans (by repeat (first | with_reducible exact New.refl _ | with_reducible assumption | refine New.drewN ?_ _ | refine New.drew ?_ | refine New.alloc ?_ _ | refine New.setCell ?_ (by first | omega | (simp; omega) | (simp; done)) _ | (refine New.trans ?_ (by assumption)))) n1); clear n1
    rw [HF.out]
    have y1 := RS.out.lt
    go_wp2_with fail
    refine (iUnused_any _ _ _ _ _ _ _ L F (HA.out.new N1.out) (HB.out.new N1.out) HF.out).mono ?_
    rintro e w2 ⟨b1, c1, bf, cf, bc, bn, rfl, rows, n2⟩
    have RW := Lib.hid rows; clear rows
    replace RS := Lib.hid (RS.out.new n2)
    have N2 := Lib.hid (N1.out.trans n2)
    have y2 := n2.size
    clear n2 a0 a1
    go_upto_region 4 with fail
    have hlo := RW.out.lo
    have hhi := RW.out.hi
    have hne := RW.out.ne
    obtain ⟨w3, hw3⟩ : ∃ xx : World, xx = w2.alloc (.cells #[.slice (some ⟨b1, 0, none⟩) m c1, .slice (some ⟨bf, 0, none⟩) m cf] 27) := ⟨_, rfl⟩
    rw [← hw3]
    have N3 := Lib.hid (show New w w3 by rw [hw3]; exact N2.out.alloc _)
    have n23 : New w2 w3 := by rw [hw3]; exact (New.refl _).alloc _
    have x0 : w3.cell? ⟨w2.heap.size, 0, none⟩ = some (.slice (some ⟨b1, 0, none⟩) m c1) := by rw [hw3]; simp
    have x1 : w3.cell? ⟨w2.heap.size, 1, none⟩ = some (.slice (some ⟨bf, 0, none⟩) m cf) := by rw [hw3]; simp
    have O1 := Lib.hid (show Own w3 b1 (b1 + 1) (some ⟨b1, 0, none⟩) m c1 L from by have := (RW.out.new n23).r1; rw [← HN.out] at this; exact this)
    have OF := Lib.hid (show OwnBo w3 bf (bf + 1) (some ⟨bf, 0, none⟩) m cf F from by have := (RW.out.new n23).rf; rw [← HN.out] at this; exact this)
    replace RS := Lib.hid (RS.out.new n23)
    have y3 : w2.heap.size < w3.heap.size := by rw [hw3]; simp
    clear hw3 n23 RW
    go_wp2_with fail
    refine (revI_any _ b1 m c1 L O1.out k1 k6).mono ?_
    rintro e w4 ⟨rfl, o4, k4⟩
    have O4 := Lib.hid o4; clear o4
    replace x0 := k4.cell x0 (by simp; omega)
    replace x1 := k4.cell x1 (by simp; omega)
    have OF4 := Lib.hid (OF.out.chg k4 (fun b q1 q2 e => by omega))
    replace RS := Lib.hid (RS.out.chg k4 (by omega))
    have N4 := Lib.hid (show New w w4 from k4.new N3.out (fun j h => by omega))
    have y4 := k4.size
    clear k4
    go_wp2_with fail
    refine (revB_any _ bf m cf F OF4.out k1 k6).mono ?_
    rintro e w5 ⟨rfl, o5, k5⟩
    have O5 := Lib.hid o5; clear o5
    replace x0 := k5.cell x0 (by simp; omega)
    replace x1 := k5.cell x1 (by simp; omega)
    have O45 := Lib.hid (O4.out.chg k5 (fun b q1 q2 e => by omega))
    replace RS := Lib.hid (RS.out.chg k5 (by omega))
    have N5 := Lib.hid (show New w w5 from k5.new N4.out (fun j h => by omega))
    have y5 := k5.size
    clear k5
    go_wp2_with fail
    obtain ⟨hl9, hcf, hm9, hor⟩ := O5.out
    clear hl9
    rcases hor with ⟨h0, _⟩ | ⟨b', fr, e9, _, _, hrow, hfr⟩
    · omega
    cases e9
    have HR := Lib.hid hrow; clear hrow
    have HFR := Lib.hid hfr; clear hfr
    go_loopw [23] (fun i wr => ∃ (k : Nat) (f : Nat → Value), k ≤ m ∧ i = .int .i64 k ∧ wr.rowIs bf 4 cf f ∧ (∀ x, x < m → f x = .bool (if x < k then !(F.reverse[x]?.getD false) else F.reverse[x]?.getD false)) ∧ Chg (fun x => x = bf) w5 wr) (fun i _ => m - (intOf i).toNat)
    case atStart => exact ⟨0, fr, Nat.zero_le _, rfl, HR.out, fun x hx => by rw [if_neg (by omega)]; exact HFR.out x hx, Chg.refl _ _⟩
    case round =>
      obtain ⟨k, f2, hk, rfl, hrow2, hf2, hch⟩ := hrel
      have HR2 := Lib.hid hrow2; clear hrow2
      have HF2 := Lib.hid hf2; clear hf2
      have HC := Lib.hid hch; clear hch
      have zr : wr.heap.size ≥ w5.heap.size := HC.out.size
      by_cases hlt : k < m
      · have q1 := HC.out.cell x1 (by simp; omega)
        obtain ⟨y, hy⟩ : ∃ y, y = F.reverse[k]?.getD false := ⟨_, rfl⟩
        have ck : wr.cell? ⟨bf, k, none⟩ = some (.bool y) := by rw [HR2.out.cell (by omega), HF2.out k hlt, if_neg (by omega), hy]
        have fk := HR2.out.frozen k
        have HY := Lib.hid hy; clear hy
        go_wp2
        go_roundw
        case rel =>
          refine ⟨k + 1, _, by omega, by go_num, HR2.out.set k _, fun x hx => ?_, HC.out.trans (Chg.setCell (p := ⟨bf, k, none⟩) _)⟩
          by_cases e : x = k
          · subst e
            rw [if_pos rfl, if_pos (by omega), HY.out]
          · rw [if_neg e, HF2.out x hx]
            by_cases e3 : x < k
            · rw [if_pos e3, if_pos (by omega)]
            · rw [if_neg e3, if_neg (by omega)]
        case measure => simp [intOf]; omega
      · obtain rfl : k = m := by omega
        have q0 := HC.out.cell x0 (by simp; omega)
        have q1 := HC.out.cell x1 (by simp; omega)
        obtain ⟨r0, r1, f0, f1⟩ := RS.out.chg HC.out (by omega)
        have OB := Lib.hid (show OwnBo wr bf (bf + 1) (some ⟨bf, 0, none⟩) k cf (rvL F) from ⟨by unfold rvL; rw [List.length_map, List.length_reverse]; exact HM.out, hcf, hm9, .inr ⟨bf, f2, rfl, Nat.le_refl _, by omega, HR2.out, fun x hx => by
          rw [HF2.out x hx, if_pos hx, rvL_get F HM.out hx, rev_getBool F HM.out hx]⟩⟩)
        have OA := Lib.hid (O45.out.chg HC.out (fun b q1 q2 e => by omega))
        have NR := Lib.hid (show New w wr from HC.out.new N5.out (fun j h => by omega))
        have zA : w.heap.size + 1 < wr.heap.size := World.block_lt_of_cell? _ _ r0
        go_wp2
        refine bodyPost_ret (v := .tuple #[.agg #[.slice (some ⟨b1, 0, none⟩) k c1, .slice (some ⟨bf, 0, none⟩) k cf], .bool true]) (by simp [results, Try.results22, go_sem, r0, r1]) rfl ⟨_, _, _, _, _, _, rfl, ?_, (NR.out.setCell (by dsimp only; omega) _).setCell (by dsimp only; omega) _⟩
        have ov : OwnF wr (w.heap.size + 1 + 1) wr.heap.size (some ⟨b1, 0, none⟩) k c1 (some ⟨bf, 0, none⟩) k cf L.reverse (rvL F) := ⟨OA.out.mono (by omega) (by omega), OB.out.mono (by omega) (by omega), fun _ _ e => by simp [blkOf] at e; omega⟩
        exact ((ov.setCell (p := ⟨w.heap.size + 1, 0, none⟩) (.inl (by dsimp only; omega)) _).setCell (p := ⟨w.heap.size + 1, 1, none⟩) (.inl (by dsimp only; omega)) _).mono (by omega) (by simp)
end Go.Proofs.Ytejmmahjolkcgaa
