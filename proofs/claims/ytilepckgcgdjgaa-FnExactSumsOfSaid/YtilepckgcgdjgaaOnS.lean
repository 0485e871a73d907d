/- All moves with an amount, the model's; MovesOn, the model's. -/
import Derived.Test.YtilepckgcgdjgaaOnI
import Derived.Test.YtilepckgcgdjgaaSpec4
namespace Go.Proofs.Ytilepckgcgdjgaa
open Go.RowKit

set_option maxRecDepth 100000 in
set_option maxHeartbeats 8000000 in
theorem veOn_open (w : World) (aa ab : Option Addr) (n m ca cb : Nat) (S H : List Int) (h1 : Ints w aa n ca S) (h2 : Ints w ab m cb H) (hg : Good S H) :
    Calls Try.prog 44 #[.agg #[.slice aa n ca, .slice ab m cb], .bool false] w (RetP0 w (onL S H false)) := by
  have HA := Lib.hid h1; clear h1
  have HB := Lib.hid h2; clear h2
  have hn := HA.out.len
  have q5 : n ≤ 5 := by have := hg.1; omega
  have q1 : 1 ≤ n := by have := hg.1; omega
  have HG := Lib.hid hg; clear hg
  show Calls _ _ _ _ (RetP0 w (gridUp (onB S H false) (-1) (S.length + 1) (S.length + 1)))
  rw [← hn]
  have HN := Lib.hid hn; clear hn
  obtain ⟨i0, hi, hz0, hz1, hz2'⟩ := info_parts Try.infoMove
  obtain ⟨W1, hW1⟩ : ∃ W1, W1 = w.alloc (.cells #[.slice aa n ca, .slice ab m cb] 28) := ⟨_, rfl⟩
  have a0 : W1.cell? ⟨w.heap.size, 0, none⟩ = some (.slice aa n ca) := by rw [hW1]; simp
  have a1 : W1.cell? ⟨w.heap.size, 1, none⟩ = some (.slice ab m cb) := by rw [hW1]; simp
  have s1 : W1.heap.size = w.heap.size + 1 := by rw [hW1]; simp
  have N1 := Lib.hid (show New w W1 by rw [hW1]; exact (by repeat (first | with_reducible exact New.refl _ | with_reducible assumption | refine New.drewN ?_ _ | refine New.drew ?_ | refine New.alloc ?_ _ | refine New.setCell ?_ (by first | omega | (simp; omega) | (simp; done)) _ | (refine New.trans ?_ (by assumption)))))
  have A1 := Lib.hid (And.intro a0 a1); clear a0 a1
  have S1 := Lib.hid s1; clear s1
  have HW := Lib.hid hW1; clear hW1
  go_enter Try.func44, Try.ntmps44
  go_wp2
  rw [← HW.out]
  go_loopw [5, 6] (fun v f wr => ∃ (i : Nat) (f' : Int), i ≤ n + 1 ∧ f = .int .i64 f' ∧ f' = -1 + (i : Int) ∧ New W1 wr ∧ wr.ownsRow (w.heap.size + 1) 77 2 v (gridUp (onB S H false) (-1) (n + 1) i).length (flat (gridUp (onB S H false) (-1) (n + 1) i))) (fun _ f _ => ((n : Int) - intOf f).toNat)
  case atStart => exact ⟨0, -1, Nat.zero_le _, rfl, by simp, New.refl _, World.ownsRow_nil _ _ _ _⟩
  case round =>
    obtain ⟨i, f', hi1, rfl, hf, hnw, how⟩ := hrel
    obtain ⟨f0, f1⟩ : -1 ≤ f' ∧ f' ≤ (n : Int) := by omega
    have HF := Lib.hid hf; clear hf
    have NW := Lib.hid hnw; clear hnw
    have HO := Lib.hid how; clear how
    have x0 := NW.out.cell A1.out.1
    have x1 := NW.out.cell A1.out.2
    by_cases hlt : f' < (n : Int)
    · go_wp2
      go_loopw [5, 7] (fun v t wr => ∃ (k : Nat) (t' : Int), k ≤ n + 1 ∧ t = .int .i64 t' ∧ t' = -1 + (k : Int) ∧ New W1 wr ∧ wr.ownsRow (w.heap.size + 1) 77 2 v (grid (onB S H false) (-1) (n + 1) i k).length (flat (grid (onB S H false) (-1) (n + 1) i k))) (fun _ t _ => ((n : Int) - intOf t).toNat)
      case atStart => exact ⟨0, -1, Nat.zero_le _, rfl, by simp, NW.out, by rw [grid_zero]; exact HO.out⟩
      case round =>
        obtain ⟨k, t', hk1, rfl, ht, hnw, how⟩ := hrel
        obtain ⟨t0, t1⟩ : -1 ≤ t' ∧ t' ≤ (n : Int) := by omega
        have HT := Lib.hid ht; clear ht
        have NX := Lib.hid hnw; clear hnw
        have HX := Lib.hid how; clear how
        replace x0 := NX.out.cell A1.out.1
        replace x1 := NX.out.cell A1.out.2
        have sm := grid_small (onB S H false) (-1) (N := n + 1) (i := i) (k := k) (by omega) hi1 hk1
        have zw := NX.out.size
        have zv : w.heap.size + 1 ≤ wr.heap.size := by have := S1.out; omega
        have zq : w.heap.size < wr.heap.size := by omega
        by_cases hlt2 : t' < (n : Int)
        · by_cases hmv : moveB n f' t' = true
          · have OK := Lib.hid (show MoveOk S.length f' t' by rw [← HN.out]; exact moveB_iff.1 hmv)
            go_wp2_with fail
            refine (veMove_any _ n f' t' q5).mono ?_
            rintro e w3 ⟨rfl, n3⟩
            have c0 : w3.cell? ⟨wr.heap.size, 0, none⟩ = some (.int .i64 f') := n3.cell (by simp)
            have c1 : w3.cell? ⟨wr.heap.size, 1, none⟩ = some (.int .i64 t') := n3.cell (by simp)
            have y0 := n3.cell (World.cell_kept x0)
            have y1 := n3.cell (World.cell_kept x1)
            have N3 := Lib.hid (show New wr w3 from New.trans (by repeat (first | with_reducible exact New.refl _ | with_reducible assumption | refine New.drewN ?_ _ | refine New.drew ?_ | refine New.alloc ?_ _ | refine New.setCell ?_ (by first | omega | (simp; omega) | (simp; done)) _ | (refine New.trans ?_ (by assumption)))) n3)
            have HO3 := Lib.hid (ownsRow_new HX.out N3.out)
            clear n3 x0 x1
            go_wp2_with fail
            refine (veAmount_any _ _ _ _ _ _ _ S H f' t' (HA.out.new ((NX.out.trans N3.out).trans (by repeat (first | with_reducible exact New.refl _ | with_reducible assumption | refine New.drewN ?_ _ | refine New.drew ?_ | refine New.alloc ?_ _ | refine New.setCell ?_ (by first | omega | (simp; omega) | (simp; done)) _ | (refine New.trans ?_ (by assumption)))) |> N1.out.trans)) (HB.out.new ((NX.out.trans N3.out).trans (by repeat (first | with_reducible exact New.refl _ | with_reducible assumption | refine New.drewN ?_ _ | refine New.drew ?_ | refine New.alloc ?_ _ | refine New.setCell ?_ (by first | omega | (simp; omega) | (simp; done)) _ | (refine New.trans ?_ (by assumption)))) |> N1.out.trans)) HG.out OK.out).mono ?_
            rintro e w4 ⟨rfl, n4⟩
            have d0 := n4.cell c0
            have d1 := n4.cell c1
            have e0 := n4.cell y0
            have e1 := n4.cell y1
            have N4 := Lib.hid (N3.out.trans n4)
            have HO4 := Lib.hid (ownsRow_new HX.out N4.out)
            clear n4 c0 c1 y0 y1
            by_cases hz : amt S H f' t' = 0
            · have hz2 : (amt S H f' t' == 0) = true := by simpa using hz
              have E := Lib.hid (grid_no (P := onB S H false) (N := n + 1) HF.out HT.out (by simp [onB, hz]))
              go_wp2
              go_roundw
              case rel => exact ⟨k + 1, t' + 1, by have := HT.out; omega, rfl, by have := HT.out; omega, NX.out.trans N4.out, by rw [E.out]; exact HO4.out⟩
              case measure => simp [intOf]; omega
            · have hz2 : (amt S H f' t' == 0) = false := by simpa using hz
              have E := Lib.hid (grid_yes (P := onB S H false) (N := n + 1) HF.out HT.out (by rw [onB, ← HN.out, hmv]; simp [hz]))
              have zr := N4.out.size
              have HZ := Lib.hid hz; clear hz
              go_wp2_with (at_builtin; refine wpList_append_lies _ (by rfl) (.tmp 49) (.tmp 51) 43 (by rfl) (w.heap.size + 1) 77 i0 _ 2 16 Try.underlying43 hi hz0 hz1 hz2' rfl (by decide) _ _ _ (by rfl) (ownsRow_new HO4.out (by repeat (first | with_reducible exact New.refl _ | with_reducible assumption | refine New.drewN ?_ _ | refine New.drew ?_ | refine New.alloc ?_ _ | refine New.setCell ?_ (by first | omega | (simp; omega) | (simp; done)) _ | (refine New.trans ?_ (by assumption))))) _ _ _ (flat [(f', t')]) (by rfl) (by rfl) (World.news_of_block (cs := #[.int .i64 f', .int .i64 t']) (t := 77) (fr := (0, 0)) (heap_alloc_new _ _)) (by simp [flat, Value.oneCell']) (by omega) (by unfold maxLen; omega) (by omega) (by simp; omega) _ rfl ?_; intro g cap w' ho hg hb hlt')
              go_roundw
              case rel =>
                refine ⟨k + 1, t' + 1, by have := HT.out; omega, rfl, by have := HT.out; omega, New.grown (w := _) ((NX.out.trans N4.out).trans (by repeat (first | with_reducible exact New.refl _ | with_reducible assumption | refine New.drewN ?_ _ | refine New.drew ?_ | refine New.alloc ?_ _ | refine New.setCell ?_ (by first | omega | (simp; omega) | (simp; done)) _ | (refine New.trans ?_ (by assumption))))) (ownsRow_new HO4.out (by repeat (first | with_reducible exact New.refl _ | with_reducible assumption | refine New.drewN ?_ _ | refine New.drew ?_ | refine New.alloc ?_ _ | refine New.setCell ?_ (by first | omega | (simp; omega) | (simp; done)) _ | (refine New.trans ?_ (by assumption))))) (by have := S1.out; omega) hg, ?_⟩
                rw [E.out, List.length_append, flat_append]
                exact ho
              case measure => simp [intOf]; omega
          · have hmv' : moveB n f' t' = false := by simpa using hmv
            go_wp2_with fail
            refine (veMove_any _ n f' t' q5).mono ?_
            rintro e w3 ⟨rfl, n3⟩
            have c0 : w3.cell? ⟨wr.heap.size, 0, none⟩ = some (.int .i64 f') := n3.cell (by simp)
            have c1 : w3.cell? ⟨wr.heap.size, 1, none⟩ = some (.int .i64 t') := n3.cell (by simp)
            have y0 := n3.cell (World.cell_kept x0)
            have y1 := n3.cell (World.cell_kept x1)
            have N3 := Lib.hid (show New wr w3 from New.trans (by repeat (first | with_reducible exact New.refl _ | with_reducible assumption | refine New.drewN ?_ _ | refine New.drew ?_ | refine New.alloc ?_ _ | refine New.setCell ?_ (by first | omega | (simp; omega) | (simp; done)) _ | (refine New.trans ?_ (by assumption)))) n3)
            have HO3 := Lib.hid (ownsRow_new HX.out N3.out)
            clear n3 x0 x1
            have E := Lib.hid (grid_no (P := onB S H false) (N := n + 1) HF.out HT.out (by rw [onB, ← HN.out, hmv']; rfl))
            go_wp2
            go_roundw
            case rel => exact ⟨k + 1, t' + 1, by have := HT.out; omega, rfl, by have := HT.out; omega, NX.out.trans N3.out, by rw [E.out]; exact HO3.out⟩
            case measure => simp [intOf]; omega
        · have hkN : k = n + 1 := by have := HT.out; omega
          have E := Lib.hid (grid_full (onB S H false) (-1) (n + 1) i)
          have HK := Lib.hid hkN; clear hkN
          go_wp2
          go_roundw
          case rel => exact ⟨i + 1, f' + 1, by have := HF.out; omega, rfl, by have := HF.out; omega, NX.out, by have q := HX.out; rw [HK.out, E.out] at q; exact q⟩
          case measure => simp [intOf]; omega
    · have hiN : i = n + 1 := by have := HF.out; omega
      have ho := HO.out
      rw [hiN] at ho
      obtain ⟨sa, sc, rfl, o1⟩ := OwnP.of_row ho
      have O1 := Lib.hid o1
      clear ho o1 hiN
      go_wp2
      go_ret
      exact ⟨_, _, _, rfl, O1.out.mono (by omega) (Nat.le_refl _), N1.out.trans NW.out⟩

set_option maxRecDepth 100000 in
set_option maxHeartbeats 8000000 in
theorem veOn_closed (w : World) (aa ab : Option Addr) (n m ca cb : Nat) (S H : List Int) (h1 : Ints w aa n ca S) (h2 : Ints w ab m cb H) (hg : Good S H) :
    Calls Try.prog 44 #[.agg #[.slice aa n ca, .slice ab m cb], .bool true] w (RetP0 w (onL S H true)) := by
  have HA := Lib.hid h1; clear h1
  have HB := Lib.hid h2; clear h2
  have hn := HA.out.len
  have q5 : n ≤ 5 := by have := hg.1; omega
  have q1 : 1 ≤ n := by have := hg.1; omega
  have HG := Lib.hid hg; clear hg
  show Calls _ _ _ _ (RetP0 w (gridUp (onB S H true) (-1) (S.length + 1) (S.length + 1)))
  rw [← hn]
  have HN := Lib.hid hn; clear hn
  obtain ⟨i0, hi, hz0, hz1, hz2'⟩ := info_parts Try.infoMove
  obtain ⟨W1, hW1⟩ : ∃ W1, W1 = w.alloc (.cells #[.slice aa n ca, .slice ab m cb] 28) := ⟨_, rfl⟩
  have a0 : W1.cell? ⟨w.heap.size, 0, none⟩ = some (.slice aa n ca) := by rw [hW1]; simp
  have a1 : W1.cell? ⟨w.heap.size, 1, none⟩ = some (.slice ab m cb) := by rw [hW1]; simp
  have s1 : W1.heap.size = w.heap.size + 1 := by rw [hW1]; simp
  have N1 := Lib.hid (show New w W1 by rw [hW1]; exact (by repeat (first | with_reducible exact New.refl _ | with_reducible assumption | refine New.drewN ?_ _ | refine New.drew ?_ | refine New.alloc ?_ _ | refine New.setCell ?_ (by first | omega | (simp; omega) | (simp; done)) _ | (refine New.trans ?_ (by assumption)))))
  have A1 := Lib.hid (And.intro a0 a1); clear a0 a1
  have S1 := Lib.hid s1; clear s1
  have HW := Lib.hid hW1; clear hW1
  go_enter Try.func44, Try.ntmps44
  go_wp2
  rw [← HW.out]
  go_loopw [5, 6] (fun v f wr => ∃ (i : Nat) (f' : Int), i ≤ n + 1 ∧ f = .int .i64 f' ∧ f' = -1 + (i : Int) ∧ New W1 wr ∧ wr.ownsRow (w.heap.size + 1) 77 2 v (gridUp (onB S H true) (-1) (n + 1) i).length (flat (gridUp (onB S H true) (-1) (n + 1) i))) (fun _ f _ => ((n : Int) - intOf f).toNat)
  case atStart => exact ⟨0, -1, Nat.zero_le _, rfl, by simp, New.refl _, World.ownsRow_nil _ _ _ _⟩
  case round =>
    obtain ⟨i, f', hi1, rfl, hf, hnw, how⟩ := hrel
    obtain ⟨f0, f1⟩ : -1 ≤ f' ∧ f' ≤ (n : Int) := by omega
    have HF := Lib.hid hf; clear hf
    have NW := Lib.hid hnw; clear hnw
    have HO := Lib.hid how; clear how
    have x0 := NW.out.cell A1.out.1
    have x1 := NW.out.cell A1.out.2
    by_cases hlt : f' < (n : Int)
    · go_wp2
      go_loopw [5, 7] (fun v t wr => ∃ (k : Nat) (t' : Int), k ≤ n + 1 ∧ t = .int .i64 t' ∧ t' = -1 + (k : Int) ∧ New W1 wr ∧ wr.ownsRow (w.heap.size + 1) 77 2 v (grid (onB S H true) (-1) (n + 1) i k).length (flat (grid (onB S H true) (-1) (n + 1) i k))) (fun _ t _ => ((n : Int) - intOf t).toNat)
      case atStart => exact ⟨0, -1, Nat.zero_le _, rfl, by simp, NW.out, by rw [grid_zero]; exact HO.out⟩
      case round =>
        obtain ⟨k, t', hk1, rfl, ht, hnw, how⟩ := hrel
        obtain ⟨t0, t1⟩ : -1 ≤ t' ∧ t' ≤ (n : Int) := by omega
        have HT := Lib.hid ht; clear ht
        have NX := Lib.hid hnw; clear hnw
        have HX := Lib.hid how; clear how
        replace x0 := NX.out.cell A1.out.1
        replace x1 := NX.out.cell A1.out.2
        have sm := grid_small (onB S H true) (-1) (N := n + 1) (i := i) (k := k) (by omega) hi1 hk1
        have zw := NX.out.size
        have zv : w.heap.size + 1 ≤ wr.heap.size := by have := S1.out; omega
        have zq : w.heap.size < wr.heap.size := by omega
        by_cases hlt2 : t' < (n : Int)
        · by_cases hmv : moveB n f' t' = true
          · have OK := Lib.hid (show MoveOk S.length f' t' by rw [← HN.out]; exact moveB_iff.1 hmv)
            go_wp2_with fail
            refine (veMove_any _ n f' t' q5).mono ?_
            rintro e w3 ⟨rfl, n3⟩
            have c0 : w3.cell? ⟨wr.heap.size, 0, none⟩ = some (.int .i64 f') := n3.cell (by simp)
            have c1 : w3.cell? ⟨wr.heap.size, 1, none⟩ = some (.int .i64 t') := n3.cell (by simp)
            have y0 := n3.cell (World.cell_kept x0)
            have y1 := n3.cell (World.cell_kept x1)
            have N3 := Lib.hid (show New wr w3 from New.trans (by repeat (first | with_reducible exact New.refl _ | with_reducible assumption | refine New.drewN ?_ _ | refine New.drew ?_ | refine New.alloc ?_ _ | refine New.setCell ?_ (by first | omega | (simp; omega) | (simp; done)) _ | (refine New.trans ?_ (by assumption)))) n3)
            have HO3 := Lib.hid (ownsRow_new HX.out N3.out)
            clear n3 x0 x1
            by_cases hf0 : f' < 0
            · skip
              have E := Lib.hid (grid_no (P := onB S H true) (N := n + 1) HF.out HT.out (by simp [onB, hf0]))
              go_wp2
              go_roundw
              case rel => exact ⟨k + 1, t' + 1, by have := HT.out; omega, rfl, by have := HT.out; omega, NX.out.trans N3.out, by rw [E.out]; exact HO3.out⟩
              case measure => simp [intOf]; omega
            · by_cases ht0 : t' < 0
              · skip
                have E := Lib.hid (grid_no (P := onB S H true) (N := n + 1) HF.out HT.out (by simp [onB, ht0]))
                go_wp2
                go_roundw
                case rel => exact ⟨k + 1, t' + 1, by have := HT.out; omega, rfl, by have := HT.out; omega, NX.out.trans N3.out, by rw [E.out]; exact HO3.out⟩
                case measure => simp [intOf]; omega
              · skip
                go_wp2_with fail
                refine (veAmount_any _ _ _ _ _ _ _ S H f' t' (HA.out.new ((NX.out.trans N3.out).trans (by repeat (first | with_reducible exact New.refl _ | with_reducible assumption | refine New.drewN ?_ _ | refine New.drew ?_ | refine New.alloc ?_ _ | refine New.setCell ?_ (by first | omega | (simp; omega) | (simp; done)) _ | (refine New.trans ?_ (by assumption)))) |> N1.out.trans)) (HB.out.new ((NX.out.trans N3.out).trans (by repeat (first | with_reducible exact New.refl _ | with_reducible assumption | refine New.drewN ?_ _ | refine New.drew ?_ | refine New.alloc ?_ _ | refine New.setCell ?_ (by first | omega | (simp; omega) | (simp; done)) _ | (refine New.trans ?_ (by assumption)))) |> N1.out.trans)) HG.out OK.out).mono ?_
                rintro e w4 ⟨rfl, n4⟩
                have d0 := n4.cell c0
                have d1 := n4.cell c1
                have e0 := n4.cell y0
                have e1 := n4.cell y1
                have N4 := Lib.hid (N3.out.trans n4)
                have HO4 := Lib.hid (ownsRow_new HX.out N4.out)
                clear n4 c0 c1 y0 y1
                by_cases hz : amt S H f' t' = 0
                · have hz2 : (amt S H f' t' == 0) = true := by simpa using hz
                  have E := Lib.hid (grid_no (P := onB S H true) (N := n + 1) HF.out HT.out (by simp [onB, hz]))
                  go_wp2
                  go_roundw
                  case rel => exact ⟨k + 1, t' + 1, by have := HT.out; omega, rfl, by have := HT.out; omega, NX.out.trans N4.out, by rw [E.out]; exact HO4.out⟩
                  case measure => simp [intOf]; omega
                · have hz2 : (amt S H f' t' == 0) = false := by simpa using hz
                  have E := Lib.hid (grid_yes (P := onB S H true) (N := n + 1) HF.out HT.out (by rw [onB, ← HN.out, hmv]; simp [hz, hf0, ht0]))
                  have zr := N4.out.size
                  have HZ := Lib.hid hz; clear hz
                  go_wp2_with (at_builtin; refine wpList_append_lies _ (by rfl) (.tmp 49) (.tmp 51) 43 (by rfl) (w.heap.size + 1) 77 i0 _ 2 16 Try.underlying43 hi hz0 hz1 hz2' rfl (by decide) _ _ _ (by rfl) (ownsRow_new HO4.out (by repeat (first | with_reducible exact New.refl _ | with_reducible assumption | refine New.drewN ?_ _ | refine New.drew ?_ | refine New.alloc ?_ _ | refine New.setCell ?_ (by first | omega | (simp; omega) | (simp; done)) _ | (refine New.trans ?_ (by assumption))))) _ _ _ (flat [(f', t')]) (by rfl) (by rfl) (World.news_of_block (cs := #[.int .i64 f', .int .i64 t']) (t := 77) (fr := (0, 0)) (heap_alloc_new _ _)) (by simp [flat, Value.oneCell']) (by omega) (by unfold maxLen; omega) (by omega) (by simp; omega) _ rfl ?_; intro g cap w' ho hg hb hlt')
                  go_roundw
                  case rel =>
                    refine ⟨k + 1, t' + 1, by have := HT.out; omega, rfl, by have := HT.out; omega, New.grown (w := _) ((NX.out.trans N4.out).trans (by repeat (first | with_reducible exact New.refl _ | with_reducible assumption | refine New.drewN ?_ _ | refine New.drew ?_ | refine New.alloc ?_ _ | refine New.setCell ?_ (by first | omega | (simp; omega) | (simp; done)) _ | (refine New.trans ?_ (by assumption))))) (ownsRow_new HO4.out (by repeat (first | with_reducible exact New.refl _ | with_reducible assumption | refine New.drewN ?_ _ | refine New.drew ?_ | refine New.alloc ?_ _ | refine New.setCell ?_ (by first | omega | (simp; omega) | (simp; done)) _ | (refine New.trans ?_ (by assumption))))) (by have := S1.out; omega) hg, ?_⟩
                    rw [E.out, List.length_append, flat_append]
                    exact ho
                  case measure => simp [intOf]; omega
          · have hmv' : moveB n f' t' = false := by simpa using hmv
            go_wp2_with fail
            refine (veMove_any _ n f' t' q5).mono ?_
            rintro e w3 ⟨rfl, n3⟩
            have c0 : w3.cell? ⟨wr.heap.size, 0, none⟩ = some (.int .i64 f') := n3.cell (by simp)
            have c1 : w3.cell? ⟨wr.heap.size, 1, none⟩ = some (.int .i64 t') := n3.cell (by simp)
            have y0 := n3.cell (World.cell_kept x0)
            have y1 := n3.cell (World.cell_kept x1)
            have N3 := Lib.hid (show New wr w3 from New.trans (by repeat (first | with_reducible exact New.refl _ | with_reducible assumption | refine New.drewN ?_ _ | refine New.drew ?_ | refine New.alloc ?_ _ | refine New.setCell ?_ (by first | omega | (simp; omega) | (simp; done)) _ | (refine New.trans ?_ (by assumption)))) n3)
            have HO3 := Lib.hid (ownsRow_new HX.out N3.out)
            clear n3 x0 x1
            have E := Lib.hid (grid_no (P := onB S H true) (N := n + 1) HF.out HT.out (by rw [onB, ← HN.out, hmv']; rfl))
            go_wp2
            go_roundw
            case rel => exact ⟨k + 1, t' + 1, by have := HT.out; omega, rfl, by have := HT.out; omega, NX.out.trans N3.out, by rw [E.out]; exact HO3.out⟩
            case measure => simp [intOf]; omega
        · have hkN : k = n + 1 := by have := HT.out; omega
          have E := Lib.hid (grid_full (onB S H true) (-1) (n + 1) i)
          have HK := Lib.hid hkN; clear hkN
          go_wp2
          go_roundw
          case rel => exact ⟨i + 1, f' + 1, by have := HF.out; omega, rfl, by have := HF.out; omega, NX.out, by have q := HX.out; rw [HK.out, E.out] at q; exact q⟩
          case measure => simp [intOf]; omega
    · have hiN : i = n + 1 := by have := HF.out; omega
      have ho := HO.out
      rw [hiN] at ho
      obtain ⟨sa, sc, rfl, o1⟩ := OwnP.of_row ho
      have O1 := Lib.hid o1
      clear ho o1 hiN
      go_wp2
      go_ret
      exact ⟨_, _, _, rfl, O1.out.mono (by omega) (Nat.le_refl _), N1.out.trans NW.out⟩

theorem veOn_any (w : World) (aa ab : Option Addr) (n m ca cb : Nat) (S H : List Int) (closed : Bool) (h1 : Ints w aa n ca S) (h2 : Ints w ab m cb H) (hg : Good S H) :
    Calls Try.prog 44 #[.agg #[.slice aa n ca, .slice ab m cb], .bool closed] w (RetP0 w (onL S H closed)) := by
  cases closed with
  | false => exact veOn_open w aa ab n m ca cb S H h1 h2 hg
  | true => exact veOn_closed w aa ab n m ca cb S H h1 h2 hg
end Go.Proofs.Ytilepckgcgdjgaa
