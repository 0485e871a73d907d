/- The shares of all vessels that hold something; whether they are the same. -/
import Derived.Test.YtidklnpohgmnpaaSh
import Derived.Test.YtidklnpohgmnpaaRows2b
namespace Go.Proofs.Ytidklnpohgmnpaa
open Go.RowKit Go.IntWalk

/-- The shares of the first k vessels, if all are ratios. -/
def shsR (H : List Int) (K : List (Int × Int)) : Nat → Option (List (Int × Int))
  | 0 => some []
  | k + 1 => (shsR H K k).bind fun L => if H[k]?.getD 0 = 0 then some L else if sgR (shR H K k).1 (shR H K k).2 = true then some (L ++ [shR H K k]) else none
theorem shsR_len {H : List Int} {K : List (Int × Int)} : ∀ {k : Nat} {L : List (Int × Int)}, shsR H K k = some L → L.length ≤ k
  | 0, L, h => by
    have e : [] = L := by simpa [shsR] using h
    subst e; simp
  | k + 1, L, h => by
    unfold shsR at h
    rw [Option.bind_eq_some_iff] at h
    obtain ⟨M, hM, h⟩ := h
    have := shsR_len hM
    split at h
    · cases h; omega
    · split at h
      · cases h; simp; omega
      · cases h
theorem shsR_zero {H : List Int} {K : List (Int × Int)} {k : Nat} {L : List (Int × Int)} (h : shsR H K k = some L) (hz : H[k]?.getD 0 = 0) : shsR H K (k + 1) = some L := by
  unfold shsR
  rw [h]
  simp [hz]
theorem shsR_yes {H : List Int} {K : List (Int × Int)} {k : Nat} {L : List (Int × Int)} {P : Int × Int} (h : shsR H K k = some L) (hz : ¬ H[k]?.getD 0 = 0) (hP : shR H K k = P) (hg : sgR P.1 P.2 = true) : shsR H K (k + 1) = some (L ++ [P]) := by
  subst hP
  unfold shsR
  rw [h]
  simp [hz, hg]
theorem shsR_no {H : List Int} {K : List (Int × Int)} {k : Nat} {L : List (Int × Int)} {P : Int × Int} (h : shsR H K k = some L) (hz : ¬ H[k]?.getD 0 = 0) (hP : shR H K k = P) (hg : sgR P.1 P.2 = false) : shsR H K (k + 1) = none := by
  subst hP
  unfold shsR
  rw [h]
  simp [hz, hg]
theorem shsR_none {H : List Int} {K : List (Int × Int)} {t : Nat} (h : shsR H K t = none) : ∀ n, shsR H K (t + n) = none
  | 0 => h
  | n + 1 => by
    rw [← Nat.add_assoc]
    unfold shsR
    rw [shsR_none h n]; rfl
def slB (S H : List Int) (K : List (Int × Int)) : Bool := brB S H K && (shsR H K H.length).isSome
def slL (S H : List Int) (K : List (Int × Int)) : List (Int × Int) := if slB S H K = true then (shsR H K H.length).getD [] else []
theorem slL_no {S H : List Int} {K : List (Int × Int)} (h : slB S H K = false) : slL S H K = [] := by unfold slL; rw [h]; rfl
theorem slB_of {S H : List Int} {K : List (Int × Int)} (h1 : brB S H K = true) {o : Option (List (Int × Int))} (h : shsR H K H.length = o) : slB S H K = o.isSome := by unfold slB; rw [h1, h]; rfl
theorem slL_of {S H : List Int} {K : List (Int × Int)} (h1 : brB S H K = true) {o : Option (List (Int × Int))} (h : shsR H K H.length = o) : slL S H K = o.getD [] := by
  unfold slL
  rw [slB_of h1 h, h]
  cases o <;> rfl
theorem slB_br {S H : List Int} {K : List (Int × Int)} (h : slB S H K = true) : BrOk S H K := by
  unfold slB at h
  rw [Bool.and_eq_true] at h
  exact brB_iff.1 h.1
theorem slL_small (S H : List Int) (K : List (Int × Int)) : (slL S H K).length ≤ 1048576 := by
  cases hb : slB S H K with
  | false => rw [slL_no hb]; simp
  | true =>
    have hk := slB_br hb
    cases ho : shsR H K H.length with
    | none => rw [slB_of (brB_iff.2 hk) ho] at hb; cases hb
    | some L =>
      rw [slL_of (brB_iff.2 hk) ho]
      have := shsR_len ho
      have := hk.1.1; have := hk.1.2.1
      simp only [Option.getD_some]
      omega

set_option maxRecDepth 100000 in
set_option maxHeartbeats 4000000 in
theorem saShares_any (w : World) (aa ab ak : Option Addr) (n m r ca cb ck : Nat) (S H : List Int) (K : List (Int × Int)) (h1 : Ints w aa n ca S) (h2 : Ints w ab m cb H) (h3 : Ratios w ak r ck K) (hb : BrOk S H K) :
    Calls Try.prog 58 #[brV aa n ca ab m cb ak r ck] w fun e w' => ∃ oa on oc, e = .returned (.tuple #[.slice oa on oc, .bool (shsR H K H.length).isSome]) ∧ OwnRatio w' w.heap.size w'.heap.size oa on oc ((shsR H K H.length).getD []) ∧ New w w' := by
  have HA := Lib.hid h1; clear h1
  have HB := Lib.hid h2; clear h2
  have HK := Lib.hid h3; clear h3
  have LB := Lib.hid HB.out.len
  have bm := HB.out.2.2.1
  have br := HK.out.2.2.1
  obtain ⟨i1, hj, hy0, hy1, hy2⟩ := info_parts Try.infoRowRatio
  have HBR := Lib.hid hb; clear hb
  have hm5 : m ≤ 5 := by have := HBR.out.1.1; have := HBR.out.1.2.1; have := LB.out; omega
  rw [← LB.out]
  go_enter Try.func58, Try.ntmps58
  go_wp2
  obtain ⟨v0, hv0⟩ : ∃ xx : World, xx = w.alloc (.cells #[.slice aa n ca, .slice ab m cb, .slice ak r ck] 39) := ⟨_, rfl⟩
  rw [← hv0]
  have b0 : v0.cell? ⟨w.heap.size, 0, none⟩ = some (.slice aa n ca) := by rw [hv0]; simp
  have b1 : v0.cell? ⟨w.heap.size, 1, none⟩ = some (.slice ab m cb) := by rw [hv0]; simp
  have b2 : v0.cell? ⟨w.heap.size, 2, none⟩ = some (.slice ak r ck) := by rw [hv0]; simp
  have N0 := Lib.hid (show New w v0 by rw [hv0]; exact (by repeat (first | with_reducible exact New.refl _ | with_reducible assumption | refine New.drewN ?_ _ | refine New.drew ?_ | refine New.alloc ?_ _ | refine New.setCell ?_ (by first | omega | (simp; omega) | (simp; done)) _ | (refine New.trans ?_ (by assumption)))))
  have zv := N0.out.size
  clear hv0
  go_loopw [4, 13] (fun vo i wr => ∃ (j : Nat) (L : List (Int × Int)), j ≤ m ∧ i = .int .i64 (j : Int) ∧ shsR H K j = some L ∧ wr.ownsRow v0.heap.size 25 2 vo L.length (flatRatio L) ∧ New v0 wr) (fun _ i _ => m - (intOf i).toNat)
  case atStart => exact ⟨0, [], Nat.zero_le _, rfl, rfl, World.ownsRow_nil _ _ _ _, New.refl _⟩
  case round =>
    obtain ⟨j, L, hj', rfl, hsh, hro, hn⟩ := hrel
    have zb := hn.size
    have c0 := hn.cell b0
    have c1 := hn.cell b1
    have c2 := hn.cell b2
    have zc := World.block_lt_of_cell? _ _ c0
    simp only at zc
    have NW := Lib.hid hn; clear hn
    have RO := Lib.hid hro; clear hro
    have hL := shsR_len hsh
    have SH := Lib.hid hsh; clear hsh
    by_cases hlt : (j : Int) < m
    · have hjm : j < m := by omega
      have hjs : j < S.length := by have := HBR.out.1.2.1; have := LB.out; omega
      obtain ⟨bh, oh, eh, gh, _⟩ := (HB.out.new (N0.out.trans NW.out)).at hjm
      obtain ⟨⟨q1, q2⟩, q3, q4⟩ := HBR.out.at hjs
      have HSH := Lib.hid (show shR H K j = red (K[j]?.getD (0, 0)).1 ((K[j]?.getD (0, 0)).2 * H[j]?.getD 0) from rfl)
      by_cases hz : H[j]?.getD 0 = 0
      · have SZ := Lib.hid (shsR_zero SH.out hz)
        rw [hz] at gh
        subst eh
        clear q1 q2 q3 q4 HSH hz
        go_wp2
        go_roundw
        case rel => exact ⟨j + 1, L, by omega, by go_num, SZ.out, RO.out, NW.out⟩
        case measure => simp [intOf]; omega
      · have HZ := Lib.hid hz
        obtain ⟨h, hh⟩ : ∃ h, h = H[j]?.getD 0 := ⟨_, rfl⟩
        rw [← hh] at gh q1 q2 hz
        have hz' : (h == 0) = false := by simpa using hz
        have hh1 : 1 ≤ h := by omega
        obtain ⟨⟨X, Y⟩, hP⟩ : ∃ P, P = shR H K j := ⟨_, rfl⟩
        obtain ⟨g, hg⟩ : ∃ g, g = sgR X Y := ⟨_, rfl⟩
        have HG := Lib.hid hg.symm
        have HP := Lib.hid hP.symm
        have HH := Lib.hid hh
        clear hg hP hz
        subst eh
        clear hh
        go_wp2_with fail
        refine (saShare_any _ _ _ _ _ _ _ _ _ _ S H K j (HA.out.new (N0.out.trans NW.out)) (HB.out.new (N0.out.trans NW.out)) (HK.out.new (N0.out.trans NW.out)) HBR.out hjs HZ.out).mono ?_
        rintro e w4 ⟨rfl, n4⟩
        rw [HP.out, show sgR ((X, Y) : Int × Int).1 ((X, Y) : Int × Int).2 = g from HG.out]
        have N4 := Lib.hid n4; clear n4
        cases g with
        | false =>
          have HN := Lib.hid (shsR_no SH.out HZ.out HP.out HG.out)
          have HZN := Lib.hid (show shsR H K m = none by have := shsR_none HN.out (m - (j + 1)); rw [show j + 1 + (m - (j + 1)) = m by omega] at this; exact this)
          go_wp2
          go_ret2
          exact ⟨none, 0, 0, by rw [HZN.out]; rfl, by rw [HZN.out]; exact OwnRatio.nil _ _ _, by have := N0.out.trans (NW.out.trans N4.out); (repeat (first | with_reducible exact New.refl _ | with_reducible assumption | refine New.drewN ?_ _ | refine New.drew ?_ | refine New.alloc ?_ _ | refine New.setCell ?_ (by first | omega | (simp; omega) | (simp; done)) _ | (refine New.trans ?_ (by assumption))))⟩
        | true =>
          have HY := Lib.hid (shsR_yes SH.out HZ.out HP.out HG.out)
          go_upto_region 9 with fail
          obtain ⟨w5, hw5⟩ : ∃ v, v = w4.alloc (.cells #[.int .i64 X, .int .i64 Y] 25) := ⟨_, rfl⟩
          rw [← hw5]
          have d0 : w5.cell? ⟨w4.heap.size, 0, none⟩ = some (.int .i64 X) := by rw [hw5]; simp
          have d1 : w5.cell? ⟨w4.heap.size, 1, none⟩ = some (.int .i64 Y) := by rw [hw5]; simp
          have M5 : New wr w5 := by rw [hw5]; exact N4.out.alloc _
          have N5 := Lib.hid (NW.out.trans M5)
          have RO5 := Lib.hid (ownsRow_new RO.out M5)
          have zb5 := M5.size
          have zd := World.block_lt_of_cell? _ _ d0
          simp only at zd
          obtain ⟨B5, hB5⟩ : ∃ B, B = w4.heap.size := ⟨_, rfl⟩
          rw [← hB5] at d0 d1 zd ⊢
          clear hw5 hB5 M5 RO
          go_wp2_with (at_builtin; go_loud (refine wpList_append_lies _ (by rfl) (.tmp 28) (.tmp 30) 37 (by rfl) v0.heap.size 25 i1 _ 2 16 Try.underlying37 hj hy0 hy1 hy2 rfl (by decide) _ L.length _ (by rfl) (ownsRow_new RO5.out (by repeat (first | with_reducible exact New.refl _ | with_reducible assumption | refine New.drewN ?_ _ | refine New.drew ?_ | refine New.alloc ?_ _ | refine New.setCell ?_ (by first | omega | (simp; omega) | (simp; done)) _ | (refine New.trans ?_ (by assumption))))) _ _ _ [.int .i64 X, .int .i64 Y] (by rfl) (by rfl) (World.news_of_block (cs := #[.int .i64 X, .int .i64 Y]) (t := 25) (fr := (0, 0)) (heap_alloc_at (by simp))) (by simp [Value.oneCell']) (by omega) (by unfold maxLen; omega) (by omega) (by simp; omega) _ rfl ?_; intro g cap w7 ho hg hb' hlt'; have N7 := Lib.hid (New.grown (w0 := v0) (w := _) (N5.out.trans (by repeat (first | with_reducible exact New.refl _ | with_reducible assumption | refine New.drewN ?_ _ | refine New.drew ?_ | refine New.alloc ?_ _ | refine New.setCell ?_ (by first | omega | (simp; omega) | (simp; done)) _ | (refine New.trans ?_ (by assumption))))) (ownsRow_new RO5.out (by repeat (first | with_reducible exact New.refl _ | with_reducible assumption | refine New.drewN ?_ _ | refine New.drew ?_ | refine New.alloc ?_ _ | refine New.setCell ?_ (by first | omega | (simp; omega) | (simp; done)) _ | (refine New.trans ?_ (by assumption))))) (by omega) hg); have RO7 := Lib.hid ho; clear ho hg hb' hlt'))
          go_roundw
          case rel =>
            refine ⟨j + 1, L ++ [(X, Y)], by omega, by go_num, HY.out, ?_, N7.out⟩
            rw [flatRatio_append, List.length_append]
            exact RO7.out
          case measure => simp [intOf]; omega
    · obtain rfl : j = m := by omega
      have r0 := RO.out
      obtain ⟨oa, oc, e1, o1⟩ := OwnRatio.of_row r0
      subst e1
      go_wp2
      go_ret2
      exact ⟨oa, L.length, oc, by rw [SH.out]; rfl, by rw [SH.out]; exact o1.mono zv (Nat.le_refl _), N0.out.trans NW.out⟩

set_option maxRecDepth 100000 in
set_option maxHeartbeats 4000000 in
theorem sSharesOf_any (w : World) (aa ab ak : Option Addr) (n m r ca cb ck : Nat) (S H : List Int) (K : List (Int × Int)) (h1 : Ints w aa n ca S) (h2 : Ints w ab m cb H) (h3 : Ratios w ak r ck K) :
    Calls Try.prog 26 #[brV aa n ca ab m cb ak r ck] w fun e w' => ∃ oa on oc, e = .returned (.tuple #[.slice oa on oc, .bool (slB S H K)]) ∧ OwnRatio w' w.heap.size w'.heap.size oa on oc (slL S H K) ∧ New w w' := by
  have HA := Lib.hid h1; clear h1
  have HB := Lib.hid h2; clear h2
  have HK := Lib.hid h3; clear h3
  have LB := Lib.hid HB.out.len
  have bm := HB.out.2.2.1
  have br := HK.out.2.2.1
  obtain ⟨i1, hj, hy0, hy1, hy2⟩ := info_parts Try.infoRowRatio
  by_cases gb : brB S H K = true
  · have HBR := Lib.hid (brB_iff.1 gb)
    have hm5 : m ≤ 5 := by have := HBR.out.1.1; have := HBR.out.1.2.1; have := LB.out; omega
    have WB := Lib.hid (fun oo => slB_of (S := S) (H := H) gb (o := oo))
    have WL := Lib.hid (fun oo => slL_of (S := S) (H := H) gb (o := oo))
    rw [← LB.out] at WB WL
    have GB := Lib.hid gb
    clear gb
    go_enter Try.func26, Try.ntmps26
    go_wp2_with fail
    refine (saBrine_any _ _ _ _ _ _ _ _ _ _ S H K (HA.out.new (by repeat (first | with_reducible exact New.refl _ | with_reducible assumption | refine New.drewN ?_ _ | refine New.drew ?_ | refine New.alloc ?_ _ | refine New.setCell ?_ (by first | omega | (simp; omega) | (simp; done)) _ | (refine New.trans ?_ (by assumption))))) (HB.out.new (by repeat (first | with_reducible exact New.refl _ | with_reducible assumption | refine New.drewN ?_ _ | refine New.drew ?_ | refine New.alloc ?_ _ | refine New.setCell ?_ (by first | omega | (simp; omega) | (simp; done)) _ | (refine New.trans ?_ (by assumption))))) (HK.out.new (by repeat (first | with_reducible exact New.refl _ | with_reducible assumption | refine New.drewN ?_ _ | refine New.drew ?_ | refine New.alloc ?_ _ | refine New.setCell ?_ (by first | omega | (simp; omega) | (simp; done)) _ | (refine New.trans ?_ (by assumption)))))).mono ?_
    rintro e w1 ⟨rfl, n1⟩
    rw [GB.out]
    have b0 : w1.cell? ⟨w.heap.size, 0, none⟩ = some (.slice aa n ca) := n1.cell (by simp [go_sem])
    have b1 : w1.cell? ⟨w.heap.size, 1, none⟩ = some (.slice ab m cb) := n1.cell (by simp [go_sem])
    have b2 : w1.cell? ⟨w.heap.size, 2, none⟩ = some (.slice ak r ck) := n1.cell (by simp [go_sem])
    have N1 := Lib.hid (show New w w1 from New.trans (by repeat (first | with_reducible exact New.refl _ | with_reducible assumption | refine New.drewN ?_ _ | refine New.drew ?_ | refine New.alloc ?_ _ | refine New.setCell ?_ (by first | omega | (simp; omega) | (simp; done)) _ | (refine New.trans ?_ (by assumption)))) n1); clear n1
    go_wp2_with fail
    refine (saShares_any _ _ _ _ _ _ _ _ _ _ S H K (HA.out.new N1.out) (HB.out.new N1.out) (HK.out.new N1.out) HBR.out).mono ?_
    rintro e w2 ⟨oa, on, oc, rfl, o2, n2⟩
    rw [← LB.out] at o2 ⊢
    have zv := N1.out.size
    have O2 := Lib.hid (o2.mono zv (Nat.le_refl _)); clear o2
    have N2 := Lib.hid (N1.out.trans n2); clear n2
    obtain ⟨P, hP⟩ : ∃ P, P = shsR H K m := ⟨_, rfl⟩
    rw [← hP] at O2 ⊢
    obtain ⟨g, hg⟩ : ∃ g, g = P.isSome := ⟨_, rfl⟩
    rw [← hg]
    have HG := Lib.hid hg
    have HP := Lib.hid hP.symm; clear hP hg
    go_wp2
    go_ret2
    exact ⟨oa, on, oc, by rw [WB.out _ HP.out, HG.out]; rfl, by rw [WL.out _ HP.out]; exact O2.out, N2.out⟩
  · have gb := bool_no gb
    have WB := Lib.hid (show slB S H K = false by unfold slB; rw [gb]; rfl)
    have WL := Lib.hid (slL_no WB.out)
    have GB := Lib.hid gb; clear gb
    go_enter Try.func26, Try.ntmps26
    go_wp2_with fail
    refine (saBrine_any _ _ _ _ _ _ _ _ _ _ S H K (HA.out.new (by repeat (first | with_reducible exact New.refl _ | with_reducible assumption | refine New.drewN ?_ _ | refine New.drew ?_ | refine New.alloc ?_ _ | refine New.setCell ?_ (by first | omega | (simp; omega) | (simp; done)) _ | (refine New.trans ?_ (by assumption))))) (HB.out.new (by repeat (first | with_reducible exact New.refl _ | with_reducible assumption | refine New.drewN ?_ _ | refine New.drew ?_ | refine New.alloc ?_ _ | refine New.setCell ?_ (by first | omega | (simp; omega) | (simp; done)) _ | (refine New.trans ?_ (by assumption))))) (HK.out.new (by repeat (first | with_reducible exact New.refl _ | with_reducible assumption | refine New.drewN ?_ _ | refine New.drew ?_ | refine New.alloc ?_ _ | refine New.setCell ?_ (by first | omega | (simp; omega) | (simp; done)) _ | (refine New.trans ?_ (by assumption)))))).mono ?_
    rintro e w1 ⟨rfl, n1⟩
    rw [GB.out]
    have b0 : w1.cell? ⟨w.heap.size, 0, none⟩ = some (.slice aa n ca) := n1.cell (by simp [go_sem])
    have b1 : w1.cell? ⟨w.heap.size, 1, none⟩ = some (.slice ab m cb) := n1.cell (by simp [go_sem])
    have b2 : w1.cell? ⟨w.heap.size, 2, none⟩ = some (.slice ak r ck) := n1.cell (by simp [go_sem])
    have N1 := Lib.hid (show New w w1 from New.trans (by repeat (first | with_reducible exact New.refl _ | with_reducible assumption | refine New.drewN ?_ _ | refine New.drew ?_ | refine New.alloc ?_ _ | refine New.setCell ?_ (by first | omega | (simp; omega) | (simp; done)) _ | (refine New.trans ?_ (by assumption)))) n1); clear n1
    go_wp2
    go_ret2
    exact ⟨none, 0, 0, by rw [WB.out]; rfl, by rw [WL.out]; exact OwnRatio.nil _ _ _, N1.out⟩
end Go.Proofs.Ytidklnpohgmnpaa
