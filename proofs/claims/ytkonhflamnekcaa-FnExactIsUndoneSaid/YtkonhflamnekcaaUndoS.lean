/- IsUndone, the model's. -/
import Derived.Test.YtkonhflamnekcaaUndo
import Derived.Test.YtkonhflamnekcaaOnS
import Derived.Test.YtkonhflamnekcaaSpec5
import Derived.Test.YtkonhflamnekcaaUndoI
namespace Go.Proofs.Ytkonhflamnekcaa
open Go.RowKit

set_option maxHeartbeats 2000000 in
theorem veSame_any (w : World) (aa ab ba bb : Option Addr) (n m n' ca cb cc cd : Nat) (H K : List Int) (h1 : Ints w ab m cb H) (h2 : Ints w bb m cd K) :
    Calls Try.prog 60 #[.agg #[.slice aa n ca, .slice ab m cb], .agg #[.slice ba n' cc, .slice bb m cd]] w fun e w' => e = .returned (.bool (decide (H = K))) ∧ New w w' := by
  have hm := h1.2.2.1
  have HA := Lib.hid h1; clear h1
  have HB := Lib.hid h2; clear h2
  go_enter Try.func60, Try.ntmps60
  go_wp2
  go_loopw [10] (fun i wr => ∃ k : Nat, k ≤ m ∧ i = .int .i64 k ∧ (∀ j, j < k → H[j]?.getD 0 = K[j]?.getD 0) ∧ New w wr ∧ wr.cell? ⟨w.heap.size + 1, 1, none⟩ = some (.slice bb m cd)) (fun i _ => m - (intOf i).toNat)
  case atStart => exact ⟨0, Nat.zero_le _, rfl, fun j hj => absurd hj (by omega), (by repeat (first | with_reducible exact New.refl _ | with_reducible assumption | refine New.drewN ?_ _ | refine New.drew ?_ | refine New.alloc ?_ _ | refine New.setCell ?_ (by first | omega | (simp; omega) | (simp; done)) _ | (refine New.trans ?_ (by assumption)))), by simp [go_sem]⟩
  case round =>
    obtain ⟨k, hk, rfl, hpre, hnw, b1⟩ := hrel
    have HP := Lib.hid hpre; clear hpre
    have NW := Lib.hid hnw; clear hnw
    by_cases hlt : k < m
    · obtain ⟨b, o, rfl, gc, _⟩ := (HA.out.new NW.out).at hlt
      obtain ⟨b', o', rfl, gd, _⟩ := (HB.out.new NW.out).at hlt
      by_cases he : H[k]?.getD 0 = K[k]?.getD 0
      · have hne : (H[k]?.getD 0 != K[k]?.getD 0) = false := by simpa using he
        have hne2 : (K[k]?.getD 0 != K[k]?.getD 0) = false := by simp
        have HE := Lib.hid he; clear he
        go_wp2
        go_roundw
        case rel =>
          refine ⟨k + 1, by omega, by go_num, fun j hj => ?_, NW.out, b1⟩
          by_cases e : j = k
          · subst e; exact HE.out
          · exact HP.out j (by omega)
        case measure => simp [intOf]; omega
      · have hne : (H[k]?.getD 0 != K[k]?.getD 0) = true := by simpa using he
        have HE := Lib.hid he; clear he
        go_wp2
        go_ret
        exact ⟨ret_bool (decide_eq_false fun h => HE.out (by rw [h])).symm, NW.out⟩
    · obtain rfl : k = m := by omega
      go_wp2
      go_ret
      refine ⟨ret_bool (decide_eq_true ?_).symm, NW.out⟩
      exact ext_getD (HA.out.len.symm.trans HB.out.len) (fun j hj => HP.out j (by have := HA.out.len; omega))

set_option maxRecDepth 100000 in
set_option maxHeartbeats 8000000 in
theorem sIsUndone_any (w : World) (aa ab : Option Addr) (n m ca cb : Nat) (S H : List Int) (f t : Int) (h1 : Ints w aa n ca S) (h2 : Ints w ab m cb H) :
    Calls Try.prog 32 #[.agg #[.slice aa n ca, .slice ab m cb], .agg #[.int .i64 f, .int .i64 t]] w fun e w' => e = .returned (.tuple #[.bool (undoneM S H f t).1, .bool (undoneM S H f t).2]) ∧ New w w' := by
  have HA := Lib.hid h1; clear h1
  have HB := Lib.hid h2; clear h2
  by_cases ha : askedB S H f t = true
  · obtain ⟨hG, hM⟩ := askedB_iff.1 ha
    have hn := HA.out.len
    have hm := HB.out.len
    have HN := Lib.hid (And.intro hn hm); clear hn hm
    have HG := Lib.hid hG; clear hG
    have OK := Lib.hid hM; clear hM
    have UM := Lib.hid (undoneM_yes ha)
    go_enter Try.func32, Try.ntmps32
    go_wp2_with fail
    refine (veAsked_any _ _ _ _ _ _ _ S H f t (HA.out.new (by repeat (first | with_reducible exact New.refl _ | with_reducible assumption | refine New.drewN ?_ _ | refine New.drew ?_ | refine New.alloc ?_ _ | refine New.setCell ?_ (by first | omega | (simp; omega) | (simp; done)) _ | (refine New.trans ?_ (by assumption))))) (HB.out.new (by repeat (first | with_reducible exact New.refl _ | with_reducible assumption | refine New.drewN ?_ _ | refine New.drew ?_ | refine New.alloc ?_ _ | refine New.setCell ?_ (by first | omega | (simp; omega) | (simp; done)) _ | (refine New.trans ?_ (by assumption)))))).mono ?_
    rintro e w1 ⟨rfl, n1⟩
    have a0 : w1.cell? ⟨w.heap.size, 0, none⟩ = some (.slice aa n ca) := n1.cell (by simp [go_sem])
    have a1 : w1.cell? ⟨w.heap.size, 1, none⟩ = some (.slice ab m cb) := n1.cell (by simp [go_sem])
    have b0 : w1.cell? ⟨w.heap.size + 1, 0, none⟩ = some (.int .i64 f) := n1.cell (by simp [go_sem])
    have b1 : w1.cell? ⟨w.heap.size + 1, 1, none⟩ = some (.int .i64 t) := n1.cell (by simp [go_sem])
    have N1 := Lib.hid (show New w w1 from New.trans (by repeat (first | with_reducible exact New.refl _ | with_reducible assumption | refine New.drewN ?_ _ | refine New.drew ?_ | refine New.alloc ?_ _ | refine New.setCell ?_ (by first | omega | (simp; omega) | (simp; done)) _ | (refine New.trans ?_ (by assumption)))) n1); clear n1
    go_wp2_with fail
    refine (veMake_any _ _ _ _ _ _ _ S H f t (HA.out.new N1.out) (HB.out.new N1.out) HG.out OK.out).mono ?_
    rintro e w2 ⟨xa, xc, xb, xd, rfl, ox, n2⟩
    replace a0 := n2.cell a0
    replace a1 := n2.cell a1
    have OX := Lib.hid ox
    have N2 := Lib.hid (N1.out.trans n2); clear n2 b0 b1 ox
    have z2 : w.heap.size < w2.heap.size := World.block_lt_of_cell? _ _ a0
    go_upto_region 4 with fail
    obtain ⟨W3, hW3⟩ : ∃ W3, W3 = w2.alloc (.cells #[.slice xa n xc, .slice xb m xd] 28) := ⟨_, rfl⟩
    rw [← hW3]
    have x0 : W3.cell? ⟨w2.heap.size, 0, none⟩ = some (.slice xa n xc) := by rw [hW3]; simp
    have x1 : W3.cell? ⟨w2.heap.size, 1, none⟩ = some (.slice xb m xd) := by rw [hW3]; simp
    replace a0 : W3.cell? ⟨w.heap.size, 0, none⟩ = some (.slice aa n ca) := by rw [hW3]; exact World.cell_kept a0
    replace a1 : W3.cell? ⟨w.heap.size, 1, none⟩ = some (.slice ab m cb) := by rw [hW3]; exact World.cell_kept a1
    have K3 := Lib.hid (show New w2 W3 by rw [hW3]; exact (New.refl _).alloc _)
    clear hW3
    go_wp2_with fail
    refine (veSame_any _ _ _ _ _ _ _ _ _ _ _ _ (poured S H f t) H (OX.out.2.1.ints.new K3.out) (HB.out.new (N2.out.trans K3.out))).mono ?_
    rintro e w4 ⟨rfl, n4⟩
    replace a0 := n4.cell a0
    replace a1 := n4.cell a1
    replace x0 := n4.cell x0
    replace x1 := n4.cell x1
    have K4 := Lib.hid (K3.out.trans n4); clear n4
    have N4 := Lib.hid (N2.out.trans K4.out)
    by_cases hs : poured S H f t = H
    · have hd : decide (poured S H f t = H) = true := by simpa using hs
      have US := Lib.hid (undone_same OK.out hs); clear hs
      go_wp2
      go_ret2
      exact ⟨ret_twob (by rw [UM.out, US.out]) (by rw [UM.out]), N4.out⟩
    · have hd : decide (poured S H f t = H) = false := by simpa using hs
      have US := Lib.hid (undone_on hs); clear hs
      have hgp := Lib.hid (HG.out.poured OK.out)
      go_wp2_with fail
      refine (veOn_any _ _ _ _ _ _ _ S (poured S H f t) false (OX.out.1.ints.new K4.out) (OX.out.2.1.ints.new K4.out) hgp.out).mono ?_
      rintro e w5 ⟨ma, mn, mc, rfl, om, n5⟩
      have HMN := Lib.hid om.1
      have hmm := om.2.2.1
      have HM := Lib.hid om; clear om
      replace a0 := n5.cell a0
      replace a1 := n5.cell a1
      replace x0 := n5.cell x0
      replace x1 := n5.cell x1
      have K5 := Lib.hid (K4.out.trans n5); clear n5
      have N5 := Lib.hid (N2.out.trans K5.out)
      have A5 := Lib.hid (And.intro a0 (And.intro a1 (And.intro x0 x1)))
      go_wp2
      go_loopw [22] (fun i wr => ∃ k : Nat, k ≤ mn ∧ i = .int .i64 k ∧ New w5 wr ∧ ((onL S (poured S H f t) false).take k).any (backB S H (poured S H f t)) = false) (fun i _ => mn - (intOf i).toNat)
      case atStart => exact ⟨0, Nat.zero_le _, rfl, New.refl _, by simp⟩
      case round =>
        obtain ⟨k, hk, rfl, hnw, hpre⟩ := hrel
        have NW := Lib.hid hnw; clear hnw
        have HP0 := Lib.hid hpre; clear hpre
        clear a0 a1 x0 x1
        have a0 := NW.out.cell A5.out.1
        have a1 := NW.out.cell A5.out.2.1
        have x0 := NW.out.cell A5.out.2.2.1
        have x1 := NW.out.cell A5.out.2.2.2
        by_cases hlt : k < mn
        · have hlt' : k < (onL S (poured S H f t) false).length := by have := HMN.out; omega
          obtain ⟨bm, om_, rfl, e0, e1⟩ := (HM.out.new NW.out).pairs.2.2.2.1 k hlt
          obtain ⟨p, hp⟩ : ∃ p, p = (onL S (poured S H f t) false)[k]?.getD (0, 0) := ⟨_, rfl⟩
          have hmem : p ∈ onL S (poured S H f t) false := by rw [hp, List.getElem?_eq_getElem hlt']; exact List.getElem_mem hlt'
          rw [← all_on, List.mem_filter] at hmem
          have ok := allL_ok hmem.1
          have hat := any_take (p := backB S H (poured S H f t)) hlt' (0, 0)
          rw [← hp] at e0 e1 hat
          obtain ⟨g, u⟩ := p
          simp only at e0 e1 ok
          have OK2 := Lib.hid ok; clear ok hmem
          have HP := Lib.hid hp; clear hp
          have AT := Lib.hid hat; clear hat
          have zq : w.heap.size < wr.heap.size := World.block_lt_of_cell? _ _ a0
          have zx : w2.heap.size < wr.heap.size := World.block_lt_of_cell? _ _ x0
          obtain ⟨W6, hW6⟩ : ∃ W6, W6 = wr.alloc (.cells #[.int .i64 g, .int .i64 u] 53) := ⟨_, rfl⟩
          have m0 : W6.cell? ⟨wr.heap.size, 0, none⟩ = some (.int .i64 g) := by rw [hW6]; simp
          have m1 : W6.cell? ⟨wr.heap.size, 1, none⟩ = some (.int .i64 u) := by rw [hW6]; simp
          have n6 : New wr W6 := by rw [hW6]; exact (New.refl _).alloc _
          have H6 := Lib.hid hW6; clear hW6
          go_upto_region 9 with fail
          rw [← H6.out]
          replace a0 := n6.cell a0
          replace a1 := n6.cell a1
          replace x0 := n6.cell x0
          replace x1 := n6.cell x1
          have N6 := Lib.hid (K5.out.trans (NW.out.trans n6))
          have N66 := Lib.hid n6; clear n6 e0 e1
          by_cases hq : poured S (poured S H f t) g u = H
          · have hd2 : decide (poured S (poured S H f t) g u = H) = true := by simpa using hq
            have HQ := Lib.hid (show backB S H (poured S H f t) (g, u) = true by simp [backB, hq])
            have D2 := Lib.hid hd2; clear hd2 hq
            go_region_held3 (fun w' => w'.cell? ⟨w2.heap.size, 0, none⟩ = some (.slice xa n xc) ∧ w'.cell? ⟨w2.heap.size, 1, none⟩ = some (.slice xb m xd) ∧ w'.cell? ⟨wr.heap.size, 0, none⟩ = some (.int .i64 g) ∧ w'.cell? ⟨wr.heap.size, 1, none⟩ = some (.int .i64 u) ∧ w'.cell? ⟨w.heap.size, 0, none⟩ = some (.slice aa n ca) ∧ w'.cell? ⟨w.heap.size, 1, none⟩ = some (.slice ab m cb))
              (first | exact ⟨x0, x1, m0, m1, a0, a1⟩ | exact ⟨n7.cell x0, n7.cell x1, n7.cell m0, n7.cell m1, n7.cell a0, n7.cell a1⟩ | exact ⟨n8.cell (n7.cell x0), n8.cell (n7.cell x1), n8.cell (n7.cell m0), n8.cell (n7.cell m1), n8.cell (n7.cell a0), n8.cell (n7.cell a1)⟩ | fail)
              (first
                | (go_at_call 59; refine (veMake_any _ _ _ _ _ _ _ S (poured S H f t) g u ?_ ?_ hgp.out ?_).mono ?_; exact OX.out.1.ints.new (N6.out.trans (by repeat (first | with_reducible exact New.refl _ | with_reducible assumption | refine New.drewN ?_ _ | refine New.drew ?_ | refine New.alloc ?_ _ | refine New.setCell ?_ (by first | omega | (simp; omega) | (simp; done)) _ | (refine New.trans ?_ (by assumption))))); exact OX.out.2.1.ints.new (N6.out.trans (by repeat (first | with_reducible exact New.refl _ | with_reducible assumption | refine New.drewN ?_ _ | refine New.drew ?_ | refine New.alloc ?_ _ | refine New.setCell ?_ (by first | omega | (simp; omega) | (simp; done)) _ | (refine New.trans ?_ (by assumption))))); exact OK2.out; rintro e w7 ⟨ya, yc, yb, yd, rfl, oy, n7⟩)
                | (go_at_call 60; refine (veSame_any _ _ _ _ _ _ _ _ _ _ _ _ (poured S (poured S H f t) g u) H ?_ ?_).mono ?_; exact oy.2.1.ints.new (by repeat (first | with_reducible exact New.refl _ | with_reducible assumption | refine New.drewN ?_ _ | refine New.drew ?_ | refine New.alloc ?_ _ | refine New.setCell ?_ (by first | omega | (simp; omega) | (simp; done)) _ | (refine New.trans ?_ (by assumption)))); exact HB.out.new ((N2.out.trans N6.out).trans ((show New W6 w7 from New.trans (by repeat (first | with_reducible exact New.refl _ | with_reducible assumption | refine New.drewN ?_ _ | refine New.drew ?_ | refine New.alloc ?_ _ | refine New.setCell ?_ (by first | omega | (simp; omega) | (simp; done)) _ | (refine New.trans ?_ (by assumption)))) n7).trans (by repeat (first | with_reducible exact New.refl _ | with_reducible assumption | refine New.drewN ?_ _ | refine New.drew ?_ | refine New.alloc ?_ _ | refine New.setCell ?_ (by first | omega | (simp; omega) | (simp; done)) _ | (refine New.trans ?_ (by assumption)))))); rw [D2.out]; rintro e w8 ⟨rfl, n8⟩))
            have N8 := Lib.hid (show New W6 w8 from (show New W6 w7 from New.trans (by repeat (first | with_reducible exact New.refl _ | with_reducible assumption | refine New.drewN ?_ _ | refine New.drew ?_ | refine New.alloc ?_ _ | refine New.setCell ?_ (by first | omega | (simp; omega) | (simp; done)) _ | (refine New.trans ?_ (by assumption)))) n7).trans (New.trans (by repeat (first | with_reducible exact New.refl _ | with_reducible assumption | refine New.drewN ?_ _ | refine New.drew ?_ | refine New.alloc ?_ _ | refine New.setCell ?_ (by first | omega | (simp; omega) | (simp; done)) _ | (refine New.trans ?_ (by assumption)))) n8))
            go_wp2
            go_ret2
            refine ⟨ret_twob ?_ (by rw [UM.out]), (N2.out.trans N6.out).trans N8.out⟩
            rw [UM.out]
            show true = undoneB S H f t
            rw [US.out]
            symm
            rw [List.any_eq_true]
            exact ⟨(g, u), by rw [HP.out, List.getElem?_eq_getElem hlt']; exact List.getElem_mem hlt', HQ.out⟩
          · have hd2 : decide (poured S (poured S H f t) g u = H) = false := by simpa using hq
            have HQ := Lib.hid (show backB S H (poured S H f t) (g, u) = false by simp [backB, hq])
            have D2 := Lib.hid hd2; clear hd2 hq
            go_region_held3 (fun w' => w'.cell? ⟨w2.heap.size, 0, none⟩ = some (.slice xa n xc) ∧ w'.cell? ⟨w2.heap.size, 1, none⟩ = some (.slice xb m xd) ∧ w'.cell? ⟨wr.heap.size, 0, none⟩ = some (.int .i64 g) ∧ w'.cell? ⟨wr.heap.size, 1, none⟩ = some (.int .i64 u) ∧ w'.cell? ⟨w.heap.size, 0, none⟩ = some (.slice aa n ca) ∧ w'.cell? ⟨w.heap.size, 1, none⟩ = some (.slice ab m cb))
              (first | exact ⟨x0, x1, m0, m1, a0, a1⟩ | exact ⟨n7.cell x0, n7.cell x1, n7.cell m0, n7.cell m1, n7.cell a0, n7.cell a1⟩ | exact ⟨n8.cell (n7.cell x0), n8.cell (n7.cell x1), n8.cell (n7.cell m0), n8.cell (n7.cell m1), n8.cell (n7.cell a0), n8.cell (n7.cell a1)⟩ | fail)
              (first
                | (go_at_call 59; refine (veMake_any _ _ _ _ _ _ _ S (poured S H f t) g u ?_ ?_ hgp.out ?_).mono ?_; exact OX.out.1.ints.new (N6.out.trans (by repeat (first | with_reducible exact New.refl _ | with_reducible assumption | refine New.drewN ?_ _ | refine New.drew ?_ | refine New.alloc ?_ _ | refine New.setCell ?_ (by first | omega | (simp; omega) | (simp; done)) _ | (refine New.trans ?_ (by assumption))))); exact OX.out.2.1.ints.new (N6.out.trans (by repeat (first | with_reducible exact New.refl _ | with_reducible assumption | refine New.drewN ?_ _ | refine New.drew ?_ | refine New.alloc ?_ _ | refine New.setCell ?_ (by first | omega | (simp; omega) | (simp; done)) _ | (refine New.trans ?_ (by assumption))))); exact OK2.out; rintro e w7 ⟨ya, yc, yb, yd, rfl, oy, n7⟩)
                | (go_at_call 60; refine (veSame_any _ _ _ _ _ _ _ _ _ _ _ _ (poured S (poured S H f t) g u) H ?_ ?_).mono ?_; exact oy.2.1.ints.new (by repeat (first | with_reducible exact New.refl _ | with_reducible assumption | refine New.drewN ?_ _ | refine New.drew ?_ | refine New.alloc ?_ _ | refine New.setCell ?_ (by first | omega | (simp; omega) | (simp; done)) _ | (refine New.trans ?_ (by assumption)))); exact HB.out.new ((N2.out.trans N6.out).trans ((show New W6 w7 from New.trans (by repeat (first | with_reducible exact New.refl _ | with_reducible assumption | refine New.drewN ?_ _ | refine New.drew ?_ | refine New.alloc ?_ _ | refine New.setCell ?_ (by first | omega | (simp; omega) | (simp; done)) _ | (refine New.trans ?_ (by assumption)))) n7).trans (by repeat (first | with_reducible exact New.refl _ | with_reducible assumption | refine New.drewN ?_ _ | refine New.drew ?_ | refine New.alloc ?_ _ | refine New.setCell ?_ (by first | omega | (simp; omega) | (simp; done)) _ | (refine New.trans ?_ (by assumption)))))); rw [D2.out]; rintro e w8 ⟨rfl, n8⟩))
            have N8 := Lib.hid (show New W6 w8 from (show New W6 w7 from New.trans (by repeat (first | with_reducible exact New.refl _ | with_reducible assumption | refine New.drewN ?_ _ | refine New.drew ?_ | refine New.alloc ?_ _ | refine New.setCell ?_ (by first | omega | (simp; omega) | (simp; done)) _ | (refine New.trans ?_ (by assumption)))) n7).trans (New.trans (by repeat (first | with_reducible exact New.refl _ | with_reducible assumption | refine New.drewN ?_ _ | refine New.drew ?_ | refine New.alloc ?_ _ | refine New.setCell ?_ (by first | omega | (simp; omega) | (simp; done)) _ | (refine New.trans ?_ (by assumption)))) n8))
            go_wp2
            go_roundw
            case rel => exact ⟨k + 1, by omega, by go_num, NW.out.trans (N66.out.trans N8.out), by rw [AT.out, HP0.out, HQ.out]; rfl⟩
            case measure => simp [intOf]; omega
        · obtain rfl : k = mn := by omega
          go_wp2
          go_ret2
          refine ⟨ret_twob ?_ (by rw [UM.out]), N5.out.trans NW.out⟩
          rw [UM.out]
          show false = undoneB S H f t
          rw [US.out]
          have := HP0.out
          rw [List.take_of_length_le (by have := HMN.out; omega)] at this
          exact this.symm
  · have ha' : askedB S H f t = false := by simpa using ha
    have UM := Lib.hid (undoneM_no ha')
    go_enter Try.func32, Try.ntmps32
    go_wp2_with fail
    refine (veAsked_any _ _ _ _ _ _ _ S H f t (HA.out.new (by repeat (first | with_reducible exact New.refl _ | with_reducible assumption | refine New.drewN ?_ _ | refine New.drew ?_ | refine New.alloc ?_ _ | refine New.setCell ?_ (by first | omega | (simp; omega) | (simp; done)) _ | (refine New.trans ?_ (by assumption))))) (HB.out.new (by repeat (first | with_reducible exact New.refl _ | with_reducible assumption | refine New.drewN ?_ _ | refine New.drew ?_ | refine New.alloc ?_ _ | refine New.setCell ?_ (by first | omega | (simp; omega) | (simp; done)) _ | (refine New.trans ?_ (by assumption)))))).mono ?_
    rintro e w1 ⟨rfl, n1⟩
    go_wp2
    go_ret2
    exact ⟨ret_twob (by rw [UM.out]) (by rw [UM.out]), New.trans (by repeat (first | with_reducible exact New.refl _ | with_reducible assumption | refine New.drewN ?_ _ | refine New.drew ?_ | refine New.alloc ?_ _ | refine New.setCell ?_ (by first | omega | (simp; omega) | (simp; done)) _ | (refine New.trans ?_ (by assumption)))) n1⟩
end Go.Proofs.Ytkonhflamnekcaa
