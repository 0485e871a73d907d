/- The law of thinned and blended shares. -/
import Derived.Test.YtefpnlimkelehaaTbm
import Derived.Test.YtefpnlimkelehaaDrb
import Derived.Test.YtefpnlimkelehaaBlendS
import Derived.Test.YtefpnlimkelehaaGap
import Derived.Deep.CutRange
namespace Go.Proofs.Ytefpnlimkelehaa
open Go.RowKit Go.IntWalk

theorem cell_at0 (W : World) (x y : Value) (t : TypeId) {B : Nat} (hB : W.heap.size = B) : (W.alloc (.cells #[x, y] t)).cell? ⟨B, 0, none⟩ = some x ∧ (W.alloc (.cells #[x, y] t)).cell? ⟨B, 1, none⟩ = some y := by
  subst hB; simp

theorem big_any (w : World) (ao bo : Option Addr) (n m cap dap : Nat) (hn : n ≤ 9223372036854775807) (_hm : m ≤ 9223372036854775807) :
    Calls Try.prog 4 #[.slice ao n cap, .slice bo m dap] w fun e w' => ∃ b : Bool, e = .returned (.bool b) ∧ w = w' := by
  by_cases h1 : 1048576 < (n : Int)
  · go_enter Try.func4, Try.ntmps4
    go_wp2
    go_ret
    first | exact ⟨_, rfl, rfl⟩ | exact ⟨.inl rfl, rfl⟩ | exact ⟨.inr rfl, rfl⟩
  · have g : IntKind.i64.wrap (1048576 - (n : Int)) = 1048576 - (n : Int) := i64_in _ (by omega)
    by_cases h2 : 1048576 - (n : Int) < m
    · go_enter Try.func4, Try.ntmps4
      go_wp2
      go_ret
      first | exact ⟨_, rfl, rfl⟩ | exact ⟨.inl rfl, rfl⟩ | exact ⟨.inr rfl, rfl⟩
    · go_enter Try.func4, Try.ntmps4
      go_wp2
      go_ret
      first | exact ⟨_, rfl, rfl⟩ | exact ⟨.inl rfl, rfl⟩ | exact ⟨.inr rfl, rfl⟩

set_option maxRecDepth 100000 in
set_option maxHeartbeats 16000000 in
theorem law_ThinnedAndBlended (w : World) (ao bo : Option Addr) (n m cap dap : Nat) (h1 : Byts w ao n cap) (h2 : Byts w bo m dap) :
    Calls Try.prog 3 #[.slice ao n cap, .slice bo m dap] w fun e w' => e = .returned (.bool true) ∧ New w w' := by
  have H1 := Lib.hid h1
  have H2 := Lib.hid h2
  have hn := h1.2.1
  have hm := h2.2.1
  clear h1 h2
  go_enter Try.func3, Try.ntmps3
  go_wp2_with fail
  refine (big_any _ ao bo n m cap dap hn hm).mono ?_
  rintro e w1 ⟨b, rfl, rfl⟩
  clear hn hm
  cases b with
  | true =>
    go_wp2
    go_ret
    exact ⟨rfl, New.refl _⟩
  | false =>
    go_wp2_with fail
    refine (drawThin_any _ ao n cap H1.out).mono ?_
    rintro e w1 ⟨s, k, t, rfl, n1⟩
    have N1 := Lib.hid n1; clear n1 H1
    go_wp2_with fail
    refine (iThinShare_any _ s k t).mono ?_
    rintro e w2 ⟨rfl, n2⟩
    have N2 := Lib.hid (N1.out.trans n2); clear n2 N1
    obtain ⟨T, hT⟩ : ∃ T, T = thB s k t := ⟨_, rfl⟩
    obtain ⟨p1, hp1⟩ : ∃ x, x = (thM s k t).1 := ⟨_, rfl⟩
    obtain ⟨p2, hp2⟩ : ∃ x, x = (thM s k t).2 := ⟨_, rfl⟩
    unfold ratV
    rw [← hT, ← hp1, ← hp2]
    have HT := Lib.hid hT
    have HP1 := Lib.hid hp1
    have HP2 := Lib.hid hp2
    clear hT hp1 hp2
    go_wp2_with fail
    refine (sThinShare_any _ s k t).mono ?_
    rintro e w3 ⟨rfl, n3⟩
    obtain ⟨A, hA⟩ : ∃ A, A = w2.heap.size := ⟨_, rfl⟩
    have a0 : w3.cell? ⟨A, 0, none⟩ = some (.int .i64 p1) := n3.cell (by rw [hA]; simp)
    have a1 : w3.cell? ⟨A, 1, none⟩ = some (.int .i64 p2) := n3.cell (by rw [hA]; simp)
    have N3 := Lib.hid ((N2.out.alloc _).trans n3); clear n3 N2
    unfold ratV
    rw [← HT.out, ← HP1.out, ← HP2.out, ← hA]
    have zA : A < w3.heap.size := World.block_lt_of_cell? _ _ a0
    clear hA
    obtain ⟨w4, hw4⟩ : ∃ W, W = w3.alloc (.cells #[.int .i64 p1, .int .i64 p2] 27) := ⟨_, rfl⟩
    have N4 := Lib.hid (show New w w4 by rw [hw4]; exact N3.out.alloc _)
    have e0 : w4.cell? ⟨A, 0, none⟩ = some (.int .i64 p1) := by rw [hw4]; exact World.cell_kept a0
    have e1 : w4.cell? ⟨A, 1, none⟩ = some (.int .i64 p2) := by rw [hw4]; exact World.cell_kept a1
    have HW4 := Lib.hid hw4
    clear hw4 e0 e1
    go_upto_region 8 with fail
    rw [← HW4.out]
    have e0 : w4.cell? ⟨A, 0, none⟩ = some (.int .i64 p1) := by rw [HW4.out]; exact World.cell_kept a0
    have e1 : w4.cell? ⟨A, 1, none⟩ = some (.int .i64 p2) := by rw [HW4.out]; exact World.cell_kept a1
    have zA4 : A < w4.heap.size := World.block_lt_of_cell? _ _ e0
    clear HW4 a0 a1 zA N3
    go_cut [72] from 68 to 72 (fun v W => v = .bool (T && decide (0 < t)) ∧ w4 = W)
    case first =>
      cases T with
      | false =>
        go_wp2_with fail
        go_meet
        exact ⟨rfl, rfl⟩
      | true =>
        go_wp2_with fail
        go_meet
        exact ⟨rfl, rfl⟩
    case rest =>
    obtain ⟨rfl, ew⟩ := hcut
    subst ew
    go_upto_if 72 with fail
    go_cut [] from 68 to 100 (fun W => New w4 W)
    case first =>
      cases T with
      | false =>
        rw [show (false && decide (0 < t)) = false from rfl]
        go_wp2_with fail
        go_meet
        exact New.refl _
      | true =>
        by_cases ht : 0 < t
        · obtain ⟨hb, eq⟩ := th_step HT.out.symm ht
          have hbt := (th_iff.1 HT.out.symm).1.2
          have g1 : IntKind.i64.wrap (t - 1) = t - 1 := i64_in _ (by omega)
          clear hbt
          rw [← HP1.out, ← HP2.out] at eq
          have HB := Lib.hid hb
          have EQ := Lib.hid eq
          clear hb eq
          rw [show (true && decide (0 < t)) = true by rw [decide_eq_true ht]; rfl]
          go_wp2_with fail
          refine (iThinShare_any _ s k (t - 1)).mono ?_
          rintro e w5 ⟨rfl, n5⟩
          obtain ⟨r1, hr1⟩ : ∃ x, x = (thM s k (t - 1)).1 := ⟨_, rfl⟩
          obtain ⟨r2, hr2⟩ : ∃ x, x = (thM s k (t - 1)).2 := ⟨_, rfl⟩
          unfold ratV
          rw [HB.out, ← hr1, ← hr2]
          rw [← hr1, ← hr2] at EQ
          clear hr1 hr2 HB
          have f0 := n5.cell e0
          have f1 := n5.cell e1
          have zf : A < w5.heap.size := World.block_lt_of_cell? _ _ f0
          have N5 := Lib.hid n5
          clear n5 e0 e1 zA4
          obtain ⟨Z, hZ⟩ : ∃ Z, Z = IntKind.i64.wrap (p1 * r2 * s) := ⟨_, rfl⟩
          obtain ⟨X, hX⟩ : ∃ X, IntKind.i64.wrap (p1 * r2) = X := ⟨_, rfl⟩
          obtain ⟨Y, hY⟩ : ∃ X, IntKind.i64.wrap (r1 * p2) = X := ⟨_, rfl⟩
          obtain ⟨S, hS⟩ : ∃ X, IntKind.i64.wrap (s - k) = X := ⟨_, rfl⟩
          have z1 : IntKind.i64.wrap (X * s) = Z := by rw [← hX, wrap_mul_l, hZ]
          have z2 : IntKind.i64.wrap (Y * S) = Z := by rw [← hY, ← hS, wrap_mul_l, wrap_mul_r, hZ, EQ.out]
          clear hZ EQ
          go_wp2_with fail
          go_meet
          exact N5.out.trans (by repeat (first | with_reducible exact New.refl _ | with_reducible assumption | refine New.drewN ?_ _ | refine New.drew ?_ | refine New.alloc ?_ _ | refine New.setCell ?_ (by first | omega | (simp; omega) | (simp; done)) _ | (refine New.trans ?_ (by assumption))))
        · rw [show (true && decide (0 < t)) = false by rw [decide_eq_false ht]; rfl]
          go_wp2_with fail
          go_meet
          exact New.refl _
    case rest =>
    obtain ⟨w6, ew⟩ : ∃ W, W = wc := ⟨_, rfl⟩
    rw [← ew] at hcut ⊢
    have N6 := Lib.hid (N4.out.trans hcut)
    have c0 := hcut.cell e0
    have c1 := hcut.cell e1
    clear ew hcut N4 e0 e1 zA4
    go_upto_region 12 with fail
    go_cut [110] from 101 to 110 (fun v W => v = .bool false ∧ w6 = W)
    case first =>
      cases T with
      | false =>
        go_wp2_with fail
        go_meet
        exact ⟨rfl, rfl⟩
      | true =>
        by_cases ht : t = 0
        · subst ht
          have e := th_zero HT.out.symm
          have q1 : p1 = 1 := by rw [HP1.out, e]
          have q2 : p2 = 1 := by rw [HP2.out, e]
          subst q1 q2
          go_wp2_with fail
          go_meet
          exact ⟨rfl, rfl⟩
        · go_wp2_with fail
          go_meet
          exact ⟨rfl, rfl⟩
    case rest =>
    obtain ⟨rfl, ew⟩ := hcut
    subst ew
    clear c0 c1 HT HP1 HP2
    go_wp2_with fail
    refine (drawTimes_any _ bo m dap (H2.out.new N6.out)).mono ?_
    rintro e w7 ⟨s', k', ⟨g1, g2⟩, rfl, n7⟩
    have N7 := Lib.hid (N6.out.trans n7); clear n7 N6
    unfold ratV
    simp only
    go_wp2_with fail
    obtain ⟨C, hC⟩ : ∃ C, C = w7.heap.size := ⟨_, rfl⟩
    obtain ⟨v7, hv7⟩ : ∃ W, W = w7.alloc (.cells #[.int .i64 g1, .int .i64 g2] 27) := ⟨_, rfl⟩
    have c0 : v7.cell? ⟨C, 0, none⟩ = some (.int .i64 g1) := by rw [hv7, hC]; simp
    have c1 : v7.cell? ⟨C, 1, none⟩ = some (.int .i64 g2) := by rw [hv7, hC]; simp
    have M7 := Lib.hid (show New w v7 by rw [hv7]; exact N7.out.alloc _)
    rw [← hv7, ← hC]
    clear hv7 hC N7
    refine (iTimesToThin_any _ s' k' g1 g2).mono ?_
    rintro e w8 ⟨rfl, n8⟩
    replace c0 := n8.cell c0
    replace c1 := n8.cell c1
    have N8 := Lib.hid (M7.out.trans n8); clear n8 M7
    obtain ⟨U, hU⟩ : ∃ U, U = ttB s' k' g1 g2 := ⟨_, rfl⟩
    obtain ⟨st, hst⟩ : ∃ U, U = ttM s' k' g1 g2 := ⟨_, rfl⟩
    rw [← hU, ← hst]
    have HU := Lib.hid hU
    have HST := Lib.hid hst
    clear hU hst
    go_wp2_with fail
    refine (sTimesToThin_any _ s' k' g1 g2).mono ?_
    rintro e w9 ⟨rfl, n9⟩
    replace c0 := n9.cell c0
    replace c1 := n9.cell c1
    have N9 := Lib.hid (N8.out.trans n9); clear n9 N8
    rw [← HU.out, ← HST.out]
    go_upto_if 139 with fail
    go_cut [] from 139 to 186 (fun W => New w9 W)
    case first =>
      cases U with
      | false =>
        go_wp2_with fail
        go_meet
        exact New.refl _
      | true =>
        obtain ⟨hg, hb, hle, hgt⟩ := tt_any HU.out.symm
        rw [← HST.out] at hb hle hgt
        have hst := (th_iff.1 hb).1.2
        obtain ⟨a1, ha1⟩ : ∃ x, x = (thM s' k' st).1 := ⟨_, rfl⟩
        obtain ⟨a2, ha2⟩ : ∃ x, x = (thM s' k' st).2 := ⟨_, rfl⟩
        have hga := th_good hb
        rw [← ha1, ← ha2] at hle hga
        have b1 := sg_mul hga hg
        have b2 := sg_mul hg hga
        have i1 : IntKind.i64.wrap (a1 * g2) = a1 * g2 := i64_in _ (by omega)
        have i2 : IntKind.i64.wrap (g1 * a2) = g1 * a2 := i64_in _ (by omega)
        have hle' : ¬ g1 * a2 < a1 * g2 := by omega
        clear b1 b2 hle
        have HB := Lib.hid hb
        have HGT := Lib.hid hgt
        have HG := Lib.hid hg
        have HA1 := Lib.hid ha1
        have HA2 := Lib.hid ha2
        clear hb hgt hg hga ha1 ha2
        go_wp2_with fail
        refine (iThinShare_any _ s' k' st).mono ?_
        rintro e w10 ⟨rfl, n10⟩
        unfold ratV
        rw [HB.out, ← HA1.out, ← HA2.out]
        replace c0 := n10.cell c0
        replace c1 := n10.cell c1
        have zC : C < w10.heap.size := World.block_lt_of_cell? _ _ c0
        have N10 := Lib.hid n10; clear n10
        by_cases hs : 0 < st
        · obtain ⟨hb2, hlt⟩ := HGT.out hs
          have j0 : IntKind.i64.wrap (st - 1) = st - 1 := i64_in _ (by omega)
          obtain ⟨d1, hd1⟩ : ∃ x, x = (thM s' k' (st - 1)).1 := ⟨_, rfl⟩
          obtain ⟨d2, hd2⟩ : ∃ x, x = (thM s' k' (st - 1)).2 := ⟨_, rfl⟩
          have hga := th_good hb2
          rw [← hd1, ← hd2] at hlt hga
          have b1 := sg_mul hga HG.out
          have b2 := sg_mul HG.out hga
          have j1 : IntKind.i64.wrap (d1 * g2) = d1 * g2 := i64_in _ (by omega)
          have j2 : IntKind.i64.wrap (g1 * d2) = g1 * d2 := i64_in _ (by omega)
          have hlt' : ¬ d1 * g2 ≤ g1 * d2 := by omega
          clear b1 b2 hlt hga
          have HB2 := Lib.hid hb2
          have HD1 := Lib.hid hd1
          have HD2 := Lib.hid hd2
          clear hb2 hd1 hd2
          go_wp2_with fail
          refine (iThinShare_any _ s' k' (st - 1)).mono ?_
          rintro e w11 ⟨rfl, n11⟩
          unfold ratV
          rw [HB2.out, ← HD1.out, ← HD2.out]
          have c0' := n11.cell (World.cell_kept (o := .cells #[.int .i64 a1, .int .i64 a2] 27) c0)
          have c1' := n11.cell (World.cell_kept (o := .cells #[.int .i64 a1, .int .i64 a2] 27) c1)
          have zC' : C < w11.heap.size := World.block_lt_of_cell? _ _ c0'
          have N11 := Lib.hid ((N10.out.alloc _).trans n11)
          clear n11 N10 c0 c1 zC i1 i2 hle'
          go_wp2_with fail
          go_meet
          exact N11.out.alloc _
        · go_wp2_with fail
          go_meet
          exact N10.out.alloc _
    case rest =>
    obtain ⟨x1, ew⟩ : ∃ W, W = wc := ⟨_, rfl⟩
    rw [← ew] at hcut ⊢
    have N12 := Lib.hid (N9.out.trans hcut)
    clear ew hcut N9 c0 c1 HU HST
    go_wp2_with fail
    refine (drawBlend_any _ bo m dap (H2.out.new N12.out)).mono ?_
    rintro e x2 ⟨⟨p1, p2⟩, ⟨q1, q2⟩, ⟨g1, g2⟩, rfl, n2⟩
    have M2 := Lib.hid (N12.out.trans n2); clear n2 N12 H2
    unfold ratV
    simp only
    go_wp2_with fail
    obtain ⟨P, hP⟩ : ∃ C, C = x2.heap.size := ⟨_, rfl⟩
    obtain ⟨v2, hv2⟩ : ∃ W, W = ((x2.alloc (.cells #[.int .i64 p1, .int .i64 p2] 27)).alloc (.cells #[.int .i64 q1, .int .i64 q2] 27)).alloc (.cells #[.int .i64 g1, .int .i64 g2] 27) := ⟨_, rfl⟩
    have a0 : v2.cell? ⟨P, 0, none⟩ = some (.int .i64 p1) := by rw [hv2, hP]; exact World.cell_kept (World.cell_kept (by simp))
    have a1 : v2.cell? ⟨P, 1, none⟩ = some (.int .i64 p2) := by rw [hv2, hP]; exact World.cell_kept (World.cell_kept (by simp))
    have b0 : v2.cell? ⟨P + 1, 0, none⟩ = some (.int .i64 q1) := by
      rw [hv2, show P + 1 = (x2.alloc (.cells #[.int .i64 p1, .int .i64 p2] 27)).heap.size by rw [hP]; simp]; exact World.cell_kept (by simp)
    have b1 : v2.cell? ⟨P + 1, 1, none⟩ = some (.int .i64 q2) := by
      rw [hv2, show P + 1 = (x2.alloc (.cells #[.int .i64 p1, .int .i64 p2] 27)).heap.size by rw [hP]; simp]; exact World.cell_kept (by simp)
    have c0 : v2.cell? ⟨P + 1 + 1, 0, none⟩ = some (.int .i64 g1) := by rw [hv2]; exact (cell_at0 _ _ _ _ (by rw [hP]; simp)).1
    have c1 : v2.cell? ⟨P + 1 + 1, 1, none⟩ = some (.int .i64 g2) := by rw [hv2]; exact (cell_at0 _ _ _ _ (by rw [hP]; simp)).2
    have M3 := Lib.hid (show New w v2 by rw [hv2]; exact ((M2.out.alloc _).alloc _).alloc _)
    rw [← hv2, ← hP]
    clear hv2 hP M2
    refine (iBlendAmounts_any _ p1 p2 q1 q2 g1 g2).mono ?_
    rintro e x3 ⟨rfl, n3⟩
    replace a0 := n3.cell a0
    replace a1 := n3.cell a1
    replace b0 := n3.cell b0
    replace b1 := n3.cell b1
    replace c0 := n3.cell c0
    replace c1 := n3.cell c1
    have M4 := Lib.hid (M3.out.trans n3); clear n3 M3
    obtain ⟨V, hV⟩ : ∃ U, U = blB p1 p2 q1 q2 g1 g2 := ⟨_, rfl⟩
    obtain ⟨x, hx⟩ : ∃ U, U = (blM p1 p2 q1 q2 g1 g2).1 := ⟨_, rfl⟩
    obtain ⟨y, hy⟩ : ∃ U, U = (blM p1 p2 q1 q2 g1 g2).2 := ⟨_, rfl⟩
    rw [← hV, ← hx, ← hy]
    have HV := Lib.hid hV
    have HX := Lib.hid hx
    have HY := Lib.hid hy
    clear hV hx hy
    go_wp2_with fail
    refine (sBlendAmounts_any _ p1 p2 q1 q2 g1 g2).mono ?_
    rintro e x4 ⟨rfl, n4⟩
    replace a0 := n4.cell a0
    replace a1 := n4.cell a1
    replace b0 := n4.cell b0
    replace b1 := n4.cell b1
    replace c0 := n4.cell c0
    replace c1 := n4.cell c1
    have M5 := Lib.hid (M4.out.trans n4); clear n4 M4
    rw [← HV.out, ← HX.out, ← HY.out]
    cases V with
    | false =>
      go_wp2
      go_ret
      exact ⟨rfl, M5.out⟩
    | true =>
      have all := bl_all HV.out.symm
      rw [← HX.out, ← HY.out] at all
      obtain ⟨⟨x0, x9⟩, ⟨y0, y9⟩, xy, eq, back, swap⟩ := all
      have EQ := Lib.hid eq
      have BACK := Lib.hid back
      have SWAP := Lib.hid swap
      clear eq back swap HV HX HY
      have k1 : IntKind.i64.wrap (x + y) = x + y := i64_in _ (by omega)
      have k2 : ¬ x < 0 := by omega
      have k3 : ¬ y < 0 := by omega
      have k4 : ¬ x + y < 1 := by omega
      clear x0 x9 y0 y9 xy
      go_upto_region 35 with fail
      go_cut [285] from 235 to 285 (fun v W => (∃ b : Bool, v = .bool b) ∧ x4 = W)
      case first =>
        by_cases l1 : x ≤ 10000
        · by_cases l2 : y ≤ 10000
          · by_cases l3 : p2 ≤ 1000
            · by_cases l4 : q2 ≤ 1000
              · by_cases l5 : g2 ≤ 100
                · clear k1 k2 k3 k4
                  go_wp2_with fail
                  all_goals go_meet
                  all_goals exact ⟨⟨_, rfl⟩, rfl⟩
                · go_wp2_with fail
                  go_meet
                  exact ⟨⟨_, rfl⟩, rfl⟩
              · go_wp2_with fail
                go_meet
                exact ⟨⟨_, rfl⟩, rfl⟩
            · go_wp2_with fail
              go_meet
              exact ⟨⟨_, rfl⟩, rfl⟩
          · go_wp2_with fail
            go_meet
            exact ⟨⟨_, rfl⟩, rfl⟩
        · go_wp2_with fail
          go_meet
          exact ⟨⟨_, rfl⟩, rfl⟩
      case rest =>
      obtain ⟨⟨bb, rfl⟩, ew⟩ := hcut
      subst ew
      go_upto_if 285 with fail
      go_cut [] from 286 to 316 (fun W => x4 = W)
      case first =>
        cases bb with
        | false =>
          go_wp2_with fail
          go_meet
          exact rfl
        | true =>
          obtain ⟨Z, hZ⟩ : ∃ Z, Z = IntKind.i64.wrap ((x * p1 * q2 + y * q1 * p2) * g2) := ⟨_, rfl⟩
          obtain ⟨X1, hX1⟩ : ∃ X, IntKind.i64.wrap (x * p1) = X := ⟨_, rfl⟩
          obtain ⟨X2, hX2⟩ : ∃ X, IntKind.i64.wrap (X1 * q2) = X := ⟨_, rfl⟩
          obtain ⟨Y1, hY1⟩ : ∃ X, IntKind.i64.wrap (y * q1) = X := ⟨_, rfl⟩
          obtain ⟨Y2, hY2⟩ : ∃ X, IntKind.i64.wrap (Y1 * p2) = X := ⟨_, rfl⟩
          obtain ⟨S, hS⟩ : ∃ X, IntKind.i64.wrap (X2 + Y2) = X := ⟨_, rfl⟩
          obtain ⟨L1, hL1⟩ : ∃ X, IntKind.i64.wrap (g1 * (x + y)) = X := ⟨_, rfl⟩
          obtain ⟨L2, hL2⟩ : ∃ X, IntKind.i64.wrap (L1 * p2) = X := ⟨_, rfl⟩
          have z1 : IntKind.i64.wrap (S * g2) = Z := by
            rw [← hS, wrap_mul_l, hZ, ← hX2, ← hY2, ← hX1, ← hY1, wrap_mul_l, wrap_mul_l]
            rw [← wrap_mul_l, wrap_add_l, wrap_add_r, wrap_mul_l]
          have z2 : IntKind.i64.wrap (L2 * q2) = Z := by
            rw [← hL2, wrap_mul_l, ← hL1, Int.mul_assoc, wrap_mul_l, ← Int.mul_assoc, hZ, EQ.out]
          clear hZ
          go_wp2_with fail
          go_meet
          exact rfl
      case rest =>
      subst hcut
      go_wp2_with fail
      refine (iBlendAmounts_any _ q1 q2 p1 p2 g1 g2).mono ?_
      rintro e x5 ⟨rfl, n5⟩
      replace a0 := n5.cell a0
      replace a1 := n5.cell a1
      replace b0 := n5.cell b0
      replace b1 := n5.cell b1
      have M6 := Lib.hid (M5.out.trans n5); clear n5 M5 c0 c1 k1 k2 k3 k4
      rw [BACK.out]
      by_cases e1 : p1 = q1
      · by_cases e2 : p2 = q2
        · subst e1 e2
          go_wp2
          go_ret
          exact ⟨rfl, M6.out⟩
        · rw [SWAP.out (fun h => e2 h.2)]
          go_wp2
          go_ret
          exact ⟨rfl, M6.out⟩
      · rw [SWAP.out (fun h => e1 h.1)]
        go_wp2
        go_ret
        exact ⟨rfl, M6.out⟩
end Go.Proofs.Ytefpnlimkelehaa
