/- The shares of all vessels that hold something, the program's. -/
import Derived.Test.YtidklnpohgmnpaaSl
namespace Go.Proofs.Ytidklnpohgmnpaa
open Go.RowKit Go.IntWalk

set_option maxRecDepth 100000 in
set_option maxHeartbeats 4000000 in
theorem iSharesOf_any (w : World) (aa ab ak : Option Addr) (n m r ca cb ck : Nat) (S H : List Int) (K : List (Int × Int)) (h1 : Ints w aa n ca S) (h2 : Ints w ab m cb H) (h3 : Ratios w ak r ck K) :
    Calls Try.prog 27 #[brV aa n ca ab m cb ak r ck] w fun e w' => ∃ oa on oc, e = .returned (.tuple #[.slice oa on oc, .bool (slB S H K)]) ∧ OwnRatio w' w.heap.size w'.heap.size oa on oc (slL S H K) ∧ New w w' := by
  have HA := Lib.hid h1; clear h1
  have HB := Lib.hid h2; clear h2
  have HK := Lib.hid h3; clear h3
  have LB := Lib.hid HB.out.len
  have bm := HB.out.2.2.1
  have br := HK.out.2.2.1
  obtain ⟨i1, hj, hy0, hy1, hy2⟩ := info_parts Try.infoRowRatio
  by_cases gb : brB S H K = true
  · have HBR := Lib.hid (brB_iff.1 gb)
    have hm5 : m ≤ 5 := by have := HBR.out.1.1; have := HBR.out.1.2.1; have := LB.out; omega
    have WB := Lib.hid (fun oo => slB_of (S := S) (H := H) gb (o := oo))
    have WL := Lib.hid (fun oo => slL_of (S := S) (H := H) gb (o := oo))
    rw [← LB.out] at WB WL
    have GB := Lib.hid gb
    clear gb
    go_enter Try.func27, Try.ntmps27
    go_wp2_with fail
    refine (iIsBrine_any _ _ _ _ _ _ _ _ _ _ S H K (HA.out.new (by repeat (first | with_reducible exact New.refl _ | with_reducible assumption | refine New.drewN ?_ _ | refine New.drew ?_ | refine New.alloc ?_ _ | refine New.setCell ?_ (by first | omega | (simp; omega) | (simp; done)) _ | (refine New.trans ?_ (by assumption))))) (HB.out.new (by repeat (first | with_reducible exact New.refl _ | with_reducible assumption | refine New.drewN ?_ _ | refine New.drew ?_ | refine New.alloc ?_ _ | refine New.setCell ?_ (by first | omega | (simp; omega) | (simp; done)) _ | (refine New.trans ?_ (by assumption))))) (HK.out.new (by repeat (first | with_reducible exact New.refl _ | with_reducible assumption | refine New.drewN ?_ _ | refine New.drew ?_ | refine New.alloc ?_ _ | refine New.setCell ?_ (by first | omega | (simp; omega) | (simp; done)) _ | (refine New.trans ?_ (by assumption)))))).mono ?_
    rintro e w1 ⟨rfl, n1⟩
    rw [GB.out]
    have b0 : w1.cell? ⟨w.heap.size, 0, none⟩ = some (.slice aa n ca) := n1.cell (by simp [go_sem])
    have b1 : w1.cell? ⟨w.heap.size, 1, none⟩ = some (.slice ab m cb) := n1.cell (by simp [go_sem])
    have b2 : w1.cell? ⟨w.heap.size, 2, none⟩ = some (.slice ak r ck) := n1.cell (by simp [go_sem])
    have N1 := Lib.hid (show New w w1 from New.trans (by repeat (first | with_reducible exact New.refl _ | with_reducible assumption | refine New.drewN ?_ _ | refine New.drew ?_ | refine New.alloc ?_ _ | refine New.setCell ?_ (by first | omega | (simp; omega) | (simp; done)) _ | (refine New.trans ?_ (by assumption)))) n1); clear n1
    have zv := N1.out.size
    go_wp2
    obtain ⟨v0, hv0⟩ : ∃ v : World, v = w1 := ⟨_, rfl⟩
    subst hv0
    have N0 := Lib.hid N1.out
    go_loopw [4, 16] (fun vo i wr => ∃ (j : Nat) (L : List (Int × Int)), j ≤ m ∧ i = .int .i64 (j : Int) ∧ shsR H K j = some L ∧ wr.ownsRow v0.heap.size 25 2 vo L.length (flatRatio L) ∧ New v0 wr) (fun _ i _ => m - (intOf i).toNat)
    case atStart => exact ⟨0, [], Nat.zero_le _, rfl, rfl, World.ownsRow_nil _ _ _ _, New.refl _⟩
    case round =>
      obtain ⟨j, L, hj', rfl, hsh, hro, hn⟩ := hrel
      have zb := hn.size
      have c0 := hn.cell b0
      have c1 := hn.cell b1
      have c2 := hn.cell b2
      have zc := World.block_lt_of_cell? _ _ c0
      simp only at zc
      have NW := Lib.hid hn; clear hn
      have RO := Lib.hid hro; clear hro
      have hL := shsR_len hsh
      have SH := Lib.hid hsh; clear hsh
      by_cases hlt : (j : Int) < m
      · have hjm : j < m := by omega
        have hjs : j < S.length := by have := HBR.out.1.2.1; have := LB.out; omega
        obtain ⟨bh, oh, eh, gh, _⟩ := (HB.out.new (N0.out.trans NW.out)).at hjm
        obtain ⟨⟨q1, q2⟩, q3, q4⟩ := HBR.out.at hjs
        have HSH := Lib.hid (show shR H K j = red (K[j]?.getD (0, 0)).1 ((K[j]?.getD (0, 0)).2 * H[j]?.getD 0) from rfl)
        by_cases hz : H[j]?.getD 0 = 0
        · have SZ := Lib.hid (shsR_zero SH.out hz)
          rw [hz] at gh
          subst eh
          clear q1 q2 q3 q4 HSH hz
          go_wp2
          go_roundw
          case rel => exact ⟨j + 1, L, by omega, by go_num, SZ.out, RO.out, NW.out⟩
          case measure => simp [intOf]; omega
        · have HZ := Lib.hid hz
          obtain ⟨h, hh⟩ : ∃ h, h = H[j]?.getD 0 := ⟨_, rfl⟩
          rw [← hh] at gh q1 q2 hz
          have hz' : (h == 0) = false := by simpa using hz
          have hh1 : 1 ≤ h := by omega
          obtain ⟨⟨X, Y⟩, hP⟩ : ∃ P, P = shR H K j := ⟨_, rfl⟩
          obtain ⟨g, hg⟩ : ∃ g, g = sgR X Y := ⟨_, rfl⟩
          have HG := Lib.hid hg.symm
          have HP := Lib.hid hP.symm
          have HH := Lib.hid hh
          clear hg hP hz
          obtain ⟨bs, os, es, g0, g1⟩ := (HK.out.new (N0.out.trans NW.out)).2.2.2.1 j (by have := HK.out.len; have := HBR.out.2.1; omega)
          have hjr : j < r := by have := HK.out.len; have := HBR.out.2.1; omega
          obtain ⟨⟨x, y⟩, hp⟩ : ∃ p, p = K[j]?.getD (0, 0) := ⟨_, rfl⟩
          rw [← hp] at g0 g1 q3 q4
          rw [← hp, ← hh, HP.out] at HSH
          simp only at g0 g1 q3 q4 HSH
          subst eh
          subst es
          obtain ⟨s1, s2, s3, s4⟩ := share_bds (h := h) q3 (by omega) q2
          have hjr' : (j : Int) < (r : Int) := by omega
          clear hp q3 q4 hh
          go_wp2_with fail
          refine (sharedOut_any _ x y h (by omega) (by omega) (by omega) (by omega)).mono ?_
          rintro e w4 ⟨rfl, n4⟩
          rw [← HSH.out, show sgR ((X, Y) : Int × Int).1 ((X, Y) : Int × Int).2 = g from HG.out]
          have N4 := Lib.hid n4; clear n4
          rw [show okR ((X, Y) : Int × Int) = if g = true then (X, Y) else (0, 0) by unfold okR; rw [HG.out]]
          cases g with
          | false =>
            have HN := Lib.hid (shsR_no SH.out HZ.out HP.out HG.out)
            have HZN := Lib.hid (show shsR H K m = none by have := shsR_none HN.out (m - (j + 1)); rw [show j + 1 + (m - (j + 1)) = m by omega] at this; exact this)
            go_wp2
            go_ret2
            exact ⟨none, 0, 0, by rw [WB.out _ HZN.out]; rfl, by rw [WL.out _ HZN.out]; exact OwnRatio.nil _ _ _, by have := N0.out.trans (NW.out.trans N4.out); (repeat (first | with_reducible exact New.refl _ | with_reducible assumption | refine New.drewN ?_ _ | refine New.drew ?_ | refine New.alloc ?_ _ | refine New.setCell ?_ (by first | omega | (simp; omega) | (simp; done)) _ | (refine New.trans ?_ (by assumption))))⟩
          | true =>
            have HY := Lib.hid (shsR_yes SH.out HZ.out HP.out HG.out)
            go_upto_region 11 with fail
            obtain ⟨w5, hw5⟩ : ∃ v, v = w4.alloc (.cells #[.int .i64 X, .int .i64 Y] 25) := ⟨_, rfl⟩
            rw [← hw5]
            have d0 : w5.cell? ⟨w4.heap.size, 0, none⟩ = some (.int .i64 X) := by rw [hw5]; simp
            have d1 : w5.cell? ⟨w4.heap.size, 1, none⟩ = some (.int .i64 Y) := by rw [hw5]; simp
            have M5 : New wr w5 := by rw [hw5]; exact N4.out.alloc _
            have N5 := Lib.hid (NW.out.trans M5)
            have RO5 := Lib.hid (ownsRow_new RO.out M5)
            have zb5 := M5.size
            have zd := World.block_lt_of_cell? _ _ d0
            simp only at zd
            obtain ⟨B5, hB5⟩ : ∃ B, B = w4.heap.size := ⟨_, rfl⟩
            rw [← hB5] at d0 d1 zd ⊢
            clear hw5 hB5 M5 RO
            go_wp2_with (at_builtin; go_loud (refine wpList_append_lies _ (by rfl) (.tmp 35) (.tmp 37) 37 (by rfl) v0.heap.size 25 i1 _ 2 16 Try.underlying37 hj hy0 hy1 hy2 rfl (by decide) _ L.length _ (by rfl) (ownsRow_new RO5.out (by repeat (first | with_reducible exact New.refl _ | with_reducible assumption | refine New.drewN ?_ _ | refine New.drew ?_ | refine New.alloc ?_ _ | refine New.setCell ?_ (by first | omega | (simp; omega) | (simp; done)) _ | (refine New.trans ?_ (by assumption))))) _ _ _ [.int .i64 X, .int .i64 Y] (by rfl) (by rfl) (World.news_of_block (cs := #[.int .i64 X, .int .i64 Y]) (t := 25) (fr := (0, 0)) (heap_alloc_at (by simp))) (by simp [Value.oneCell']) (by omega) (by unfold maxLen; omega) (by omega) (by simp; omega) _ rfl ?_; intro g cap w7 ho hg hb' hlt'; have N7 := Lib.hid (New.grown (w0 := v0) (w := _) (N5.out.trans (by repeat (first | with_reducible exact New.refl _ | with_reducible assumption | refine New.drewN ?_ _ | refine New.drew ?_ | refine New.alloc ?_ _ | refine New.setCell ?_ (by first | omega | (simp; omega) | (simp; done)) _ | (refine New.trans ?_ (by assumption))))) (ownsRow_new RO5.out (by repeat (first | with_reducible exact New.refl _ | with_reducible assumption | refine New.drewN ?_ _ | refine New.drew ?_ | refine New.alloc ?_ _ | refine New.setCell ?_ (by first | omega | (simp; omega) | (simp; done)) _ | (refine New.trans ?_ (by assumption))))) (by omega) hg); have RO7 := Lib.hid ho; clear ho hg hb' hlt'))
            go_roundw
            case rel =>
              refine ⟨j + 1, L ++ [(X, Y)], by omega, by go_num, HY.out, ?_, N7.out⟩
              rw [flatRatio_append, List.length_append]
              exact RO7.out
            case measure => simp [intOf]; omega
      · obtain rfl : j = m := by omega
        have r0 := RO.out
        obtain ⟨oa, oc, e1, o1⟩ := OwnRatio.of_row r0
        subst e1
        go_wp2
        go_ret2
        exact ⟨oa, L.length, oc, by rw [WB.out _ SH.out]; rfl, by rw [WL.out _ SH.out]; exact o1.mono zv (Nat.le_refl _), N0.out.trans NW.out⟩
  · have gb := bool_no gb
    have WB := Lib.hid (show slB S H K = false by unfold slB; rw [gb]; rfl)
    have WL := Lib.hid (slL_no WB.out)
    have GB := Lib.hid gb; clear gb
    go_enter Try.func27, Try.ntmps27
    go_wp2_with fail
    refine (iIsBrine_any _ _ _ _ _ _ _ _ _ _ S H K (HA.out.new (by repeat (first | with_reducible exact New.refl _ | with_reducible assumption | refine New.drewN ?_ _ | refine New.drew ?_ | refine New.alloc ?_ _ | refine New.setCell ?_ (by first | omega | (simp; omega) | (simp; done)) _ | (refine New.trans ?_ (by assumption))))) (HB.out.new (by repeat (first | with_reducible exact New.refl _ | with_reducible assumption | refine New.drewN ?_ _ | refine New.drew ?_ | refine New.alloc ?_ _ | refine New.setCell ?_ (by first | omega | (simp; omega) | (simp; done)) _ | (refine New.trans ?_ (by assumption))))) (HK.out.new (by repeat (first | with_reducible exact New.refl _ | with_reducible assumption | refine New.drewN ?_ _ | refine New.drew ?_ | refine New.alloc ?_ _ | refine New.setCell ?_ (by first | omega | (simp; omega) | (simp; done)) _ | (refine New.trans ?_ (by assumption)))))).mono ?_
    rintro e w1 ⟨rfl, n1⟩
    rw [GB.out]
    have b0 : w1.cell? ⟨w.heap.size, 0, none⟩ = some (.slice aa n ca) := n1.cell (by simp [go_sem])
    have b1 : w1.cell? ⟨w.heap.size, 1, none⟩ = some (.slice ab m cb) := n1.cell (by simp [go_sem])
    have b2 : w1.cell? ⟨w.heap.size, 2, none⟩ = some (.slice ak r ck) := n1.cell (by simp [go_sem])
    have N1 := Lib.hid (show New w w1 from New.trans (by repeat (first | with_reducible exact New.refl _ | with_reducible assumption | refine New.drewN ?_ _ | refine New.drew ?_ | refine New.alloc ?_ _ | refine New.setCell ?_ (by first | omega | (simp; omega) | (simp; done)) _ | (refine New.trans ?_ (by assumption)))) n1); clear n1
    go_wp2
    go_ret2
    exact ⟨none, 0, 0, by rw [WB.out]; rfl, by rw [WL.out]; exact OwnRatio.nil _ _ _, N1.out⟩
end Go.Proofs.Ytidklnpohgmnpaa
