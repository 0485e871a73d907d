/- The model's common level. -/
import Derived.Test.YtlhpkpfnaepgbaaOrdS
import Derived.Test.YtlhpkpfnaepgbaaRatS
namespace Go.Proofs.Ytlhpkpfnaepgbaa
open Go.RowKit Go.IntWalk

set_option maxRecDepth 100000 in
set_option maxHeartbeats 4000000 in
theorem leCommon_any (w : World) (aa : Option Addr) (n ca : Nat) (T : List Tk) (ha : Tanks w aa n ca T) (hT : TksOk T) :
    Calls Try.prog 36 #[.slice aa n ca] w fun e w' => e = .returned (ratV (comR T)) ∧ New w w' := by
  have HN := Lib.hid ha.1
  have hn : n ≤ 6 := by have := ha.1; have := hT.l6; omega
  have hn1 : 1 ≤ n := by have := ha.1; have := hT.l1; omega
  have HA := Lib.hid ha; clear ha
  have HT := Lib.hid hT; clear hT
  go_enter Try.func36, Try.ntmps36
  go_upto_region 1 with fail
  obtain ⟨v0, hv0⟩ : ∃ v, v = w.alloc (.cells #[.int .i64 0, .int .i64 0] 58) := ⟨_, rfl⟩
  rw [← hv0]
  have R0 := Lib.hid (show v0.cell? ⟨w.heap.size, 0, none⟩ = some (.int .i64 0) ∧ v0.cell? ⟨w.heap.size, 1, none⟩ = some (.int .i64 0) ∧ v0.frozen? ⟨w.heap.size, 0, none⟩ = false ∧ v0.frozen? ⟨w.heap.size, 1, none⟩ = false by rw [hv0]; simp [go_sem])
  have N0 := Lib.hid (show New w v0 by rw [hv0]; exact (by repeat (first | with_reducible exact New.refl _ | with_reducible assumption | refine New.drewN ?_ _ | refine New.drew ?_ | refine New.alloc ?_ _ | refine New.setCell ?_ (by first | omega | (simp; omega) | (simp; done)) _ | (refine New.trans ?_ (by assumption)))))
  clear hv0
  have z0 : w.heap.size < v0.heap.size := World.block_lt_of_cell? _ _ R0.out.1
  go_wp2_with fail
  refine (leOrder_any _ _ _ _ T (HA.out.new N0.out) hn).mono ?_
  rintro e w1 ⟨oa, oc, rfl, ho, n1⟩
  have OI := Lib.hid ho.ints; clear ho
  have N1 := Lib.hid n1; clear n1
  go_wp2
  go_loopw [4, 15] (fun y i wr => ∃ k : Nat, k ≤ n ∧ i = .int .i64 k ∧ y = .int .i64 (sumL (fun t => t.2.2) (T.take k)) ∧ New w1 wr) (fun _ i _ => n - (intOf i).toNat)
  case atStart => exact ⟨0, Nat.zero_le _, rfl, rfl, New.refl _⟩
  case round =>
    obtain ⟨k, hk, rfl, rfl, hnw⟩ := hrel
    have NW := Lib.hid hnw; clear hnw
    by_cases hlt : k < n
    · have KC := Lib.hid (show k < T.length by have := HN.out; omega)
      obtain ⟨b, o, rfl, g0, g1, g2⟩ := (HA.out.new (N0.out.trans (N1.out.trans NW.out))).2.2.2.1 k hlt
      have hs := sumL_take_bd (g := fun t => t.2.2) (lo := 0) (hi := 10000) (fun t ht => ⟨(HT.out.all t ht).w1, (HT.out.all t ht).w2⟩) HT.out.l6 (by omega) (by omega) k
      obtain ⟨hs1, hs2⟩ := hs
      have hg1 := (HT.out.all _ (mem_get KC.out)).w1
      have hg2 := (HT.out.all _ (mem_get KC.out)).w2
      obtain ⟨x, hx⟩ : ∃ x, x = (T[k]?.getD (0, 0, 0)).2.2 := ⟨_, rfl⟩
      rw [← hx] at hg1 hg2 g2
      have HX := Lib.hid hx; clear hx
      go_wp2
      go_roundw
      case rel => exact ⟨k + 1, by omega, by go_num, by rw [sumL_take _ _ _ KC.out, HX.out], New.trans NW.out (by repeat (first | with_reducible exact New.refl _ | with_reducible assumption | refine New.drewN ?_ _ | refine New.drew ?_ | refine New.alloc ?_ _ | refine New.setCell ?_ (by first | omega | (simp; omega) | (simp; done)) _ | (refine New.trans ?_ (by assumption))))⟩
      case measure => simp [intOf]; omega
    · obtain rfl : k = n := by omega
      have hw : sumL (fun t => t.2.2) (T.take k) = watL T := by rw [List.take_of_length_le (by have := HN.out; omega)]; rfl
      rw [hw]; clear hw
      have bw := watL_bd HT.out
      obtain ⟨WA, hWA⟩ : ∃ x, x = watL T := ⟨_, rfl⟩
      rw [← hWA] at bw ⊢
      have EW := Lib.hid hWA; clear hWA
      obtain ⟨w2, hw2⟩ : ∃ u : World, u = wr := ⟨_, rfl⟩
      rw [← hw2] at NW ⊢
      clear hw2 wr
      have N2 := Lib.hid (N1.out.trans NW.out)
      have O2 := Lib.hid (OI.out.new NW.out)
      clear NW OI N1
      go_wp2
      go_loopw [7, 8, 26] (fun y z i wr => ∃ q : Nat, q < k ∧ i = .int .i64 q ∧ y = .int .i64 (arK T q) ∧ z = .int .i64 (weK T q) ∧ (q = 0 ∨ arK T q * ((srt T)[q]?.getD (0, 0, 0)).2.1 < WA + weK T q) ∧ New w2 wr) (fun _ _ i _ => k - (intOf i).toNat)
      case atStart => exact ⟨0, by omega, rfl, rfl, rfl, .inl rfl, New.refl _⟩
      case round =>
        obtain ⟨q, hq, rfl, rfl, rfl, hpre, hnw⟩ := hrel
        have NW := Lib.hid hnw; clear hnw
        have HP := Lib.hid hpre; clear hpre
        have KC := Lib.hid (show q < T.length by have := HN.out; omega)
        have SG := Lib.hid (srt_get KC.out)
        have ST := Lib.hid ((srt_ok HT.out).all _ (mem_get (T := srt T) (k := q) (by rw [srt_length]; exact KC.out)))
        obtain ⟨og, oo, rfl, co, _⟩ := (O2.out.new NW.out).at (j := q) hq
        have e0 : (ordL T)[q]?.getD 0 = (((ordN T)[q]?.getD 0 : Nat) : Int) := map_get _ _
        rw [e0] at co; clear e0
        obtain ⟨x, hx⟩ : ∃ x, x = (ordN T)[q]?.getD 0 := ⟨_, rfl⟩
        rw [← hx] at co SG
        have hxk : x < k := by rw [hx]; have := ordK_lt (f := flT T) KC.out; have := HN.out; unfold ordN; omega
        clear hx
        obtain ⟨b, o, rfl, g0, g1, g2⟩ := (HA.out.new (N0.out.trans (N2.out.trans NW.out))).2.2.2.1 x hxk
        rw [← SG.out] at g0 g1
        clear g2
        have HC := Lib.hid (fun h2 => com_at HT.out KC.out (by rw [← EW.out]; exact HP.out) h2)
        obtain ⟨a, ea⟩ : ∃ a, a = ((srt T)[q]?.getD (0, 0, 0)).1 := ⟨_, rfl⟩
        obtain ⟨f, ef⟩ : ∃ f, f = ((srt T)[q]?.getD (0, 0, 0)).2.1 := ⟨_, rfl⟩
        have b1 := ST.out.a1; have b2 := ST.out.a2; have b3 := ST.out.f1; have b4 := ST.out.f2
        have AS := Lib.hid (arK_succ KC.out)
        have WS := Lib.hid (weK_succ KC.out)
        have bd := arwe_bd HT.out q
        rw [← ea] at g0 b1 b2 AS WS
        rw [← ef] at g1 b3 b4 WS HP
        clear ea ef
        have hm := mul_bd (show 0 ≤ a by omega) b2 b3 b4
        obtain ⟨hm1, hm2⟩ := hm
        obtain ⟨AR, hAR⟩ : ∃ z, z = arK T q := ⟨_, rfl⟩
        obtain ⟨WE, hWE⟩ : ∃ z, z = weK T q := ⟨_, rfl⟩
        rw [← hAR] at bd HP AS ⊢
        rw [← hWE] at bd HP WS ⊢
        clear hAR hWE
        obtain ⟨rc0, rc1, rf0, rf1⟩ := pair_kept (N2.out.trans NW.out) R0.out
        have zw := (N2.out.trans NW.out).size
        have zz : w.heap.size < wr.heap.size := by omega
        by_cases hend : q + 1 = k
        · obtain ⟨hcp, hce⟩ := HC.out (.inl (by have := HN.out; omega))
          rw [AS.out] at hcp
          rw [AS.out, WS.out, ← EW.out] at hce
          clear HC AS WS HP
          go_wp2
          go_quiet (fail)
          go_wp2_with fail
          refine (leRatio_any _ (WA + (WE + a * f)) (AR + a) hcp (by omega) (by omega) (by omega)).mono ?_
          rintro e w5 ⟨rfl, n5⟩
          obtain ⟨c0, c1, f0, f1⟩ := pair_kept n5 (pair_kept (show New wr _ from (by repeat (first | with_reducible exact New.refl _ | with_reducible assumption | refine New.drewN ?_ _ | refine New.drew ?_ | refine New.alloc ?_ _ | refine New.setCell ?_ (by first | omega | (simp; omega) | (simp; done)) _ | (refine New.trans ?_ (by assumption))))) ⟨rc0, rc1, rf0, rf1⟩)
          have N5 := Lib.hid (show New wr w5 from New.trans (by repeat (first | with_reducible exact New.refl _ | with_reducible assumption | refine New.drewN ?_ _ | refine New.drew ?_ | refine New.alloc ?_ _ | refine New.setCell ?_ (by first | omega | (simp; omega) | (simp; done)) _ | (refine New.trans ?_ (by assumption)))) n5); clear n5
          obtain ⟨p, hp⟩ : ∃ p, p = red (WA + (WE + a * f)) (AR + a) := ⟨_, rfl⟩
          rw [← hp] at hce ⊢
          have HP2 := Lib.hid hce; clear hce hp
          go_wp2
          refine bodyPost_ret (v := ratV p) (by simp [results, Try.results36, go_sem, c0, c1]) rfl ⟨by rw [HP2.out], ?_⟩
          have := N0.out.trans (N2.out.trans (NW.out.trans N5.out))
          (repeat (first | with_reducible exact New.refl _ | with_reducible assumption | refine New.drewN ?_ _ | refine New.drew ?_ | refine New.alloc ?_ _ | refine New.setCell ?_ (by first | omega | (simp; omega) | (simp; done)) _ | (refine New.trans ?_ (by assumption))))
        · have HC2 := Lib.hid (show WA + (WE + a * f) ≤ (AR + a) * ((srt T)[q + 1]?.getD (0, 0, 0)).2.1 → 0 < AR + a ∧ comR T = red (WA + (WE + a * f)) (AR + a) from fun h => by
            have := HC.out (.inr (by rw [AS.out, WS.out, ← EW.out]; exact h))
            rw [AS.out, WS.out, ← EW.out] at this
            exact this)
          have KC2 := Lib.hid (show q + 1 < T.length by have := HN.out; omega)
          have SG2 := Lib.hid (srt_get KC2.out)
          have ST2 := Lib.hid ((srt_ok HT.out).all _ (mem_get (T := srt T) (k := q + 1) (by rw [srt_length]; exact KC2.out)))
          obtain ⟨og', oo', eo, co2, _⟩ := (O2.out.new NW.out).at (j := q + 1) (by omega)
          cases eo
          have e0 : (ordL T)[q + 1]?.getD 0 = (((ordN T)[q + 1]?.getD 0 : Nat) : Int) := map_get _ _
          rw [e0] at co2; clear e0
          obtain ⟨x2, hx2⟩ : ∃ x, x = (ordN T)[q + 1]?.getD 0 := ⟨_, rfl⟩
          rw [← hx2] at co2 SG2
          have hxk2 : x2 < k := by rw [hx2]; have := ordK_lt (f := flT T) KC2.out; have := HN.out; unfold ordN; omega
          clear hx2
          obtain ⟨b', o', eb, u0, u1, u2⟩ := (HA.out.new (N0.out.trans (N2.out.trans NW.out))).2.2.2.1 x2 hxk2
          cases eb
          rw [← SG2.out] at u1
          clear u0 u2
          obtain ⟨f2, ef2⟩ : ∃ f, f = ((srt T)[q + 1]?.getD (0, 0, 0)).2.1 := ⟨_, rfl⟩
          have b5 := ST2.out.f1; have b6 := ST2.out.f2
          rw [← ef2] at u1 b5 b6 HC2
          have E2 := Lib.hid ef2; clear ef2
          have hp := mul_bd (show 0 ≤ AR + a by omega) (show AR + a ≤ 350 by omega) b5 b6
          obtain ⟨hp1, hp2⟩ := hp
          have hqk : q + 1 < k := by omega
          clear HC HP
          by_cases hc : WA + (WE + a * f) ≤ (AR + a) * f2
          · obtain ⟨hcp, hce⟩ := HC2.out hc
            go_wp2
            go_quiet (fail)
            go_wp2_with fail
            refine (leRatio_any _ (WA + (WE + a * f)) (AR + a) hcp (by omega) (by omega) (by omega)).mono ?_
            rintro e w5 ⟨rfl, n5⟩
            obtain ⟨c0, c1, f0, f1⟩ := pair_kept n5 (pair_kept (show New wr _ from (by repeat (first | with_reducible exact New.refl _ | with_reducible assumption | refine New.drewN ?_ _ | refine New.drew ?_ | refine New.alloc ?_ _ | refine New.setCell ?_ (by first | omega | (simp; omega) | (simp; done)) _ | (refine New.trans ?_ (by assumption))))) ⟨rc0, rc1, rf0, rf1⟩)
            have N5 := Lib.hid (show New wr w5 from New.trans (by repeat (first | with_reducible exact New.refl _ | with_reducible assumption | refine New.drewN ?_ _ | refine New.drew ?_ | refine New.alloc ?_ _ | refine New.setCell ?_ (by first | omega | (simp; omega) | (simp; done)) _ | (refine New.trans ?_ (by assumption)))) n5); clear n5
            obtain ⟨p, hp⟩ : ∃ p, p = red (WA + (WE + a * f)) (AR + a) := ⟨_, rfl⟩
            rw [← hp] at hce ⊢
            have HP2 := Lib.hid hce; clear hce hp
            go_wp2
            refine bodyPost_ret (v := ratV p) (by simp [results, Try.results36, go_sem, c0, c1]) rfl ⟨by rw [HP2.out], ?_⟩
            have := N0.out.trans (N2.out.trans (NW.out.trans N5.out))
            (repeat (first | with_reducible exact New.refl _ | with_reducible assumption | refine New.drewN ?_ _ | refine New.drew ?_ | refine New.alloc ?_ _ | refine New.setCell ?_ (by first | omega | (simp; omega) | (simp; done)) _ | (refine New.trans ?_ (by assumption))))
          · have hc' : (AR + a) * f2 < WA + (WE + a * f) := by omega
            clear HC2
            go_wp2
            go_quiet (fail)
            go_wp2_with fail
            · have hx : ((q : Int) + 1 == (k : Int)) = true ∨ WA + (WE + a * f) ≤ (AR + a) * f2 := by assumption
              exfalso
              rcases hx with hx | hx
              · simp at hx; omega
              · omega
            go_roundw
            case rel => exact ⟨q + 1, by omega, by go_num, by rw [AS.out], by rw [WS.out], .inr (by rw [AS.out, WS.out, ← E2.out]; exact hc'), New.trans NW.out (by repeat (first | with_reducible exact New.refl _ | with_reducible assumption | refine New.drewN ?_ _ | refine New.drew ?_ | refine New.alloc ?_ _ | refine New.setCell ?_ (by first | omega | (simp; omega) | (simp; done)) _ | (refine New.trans ?_ (by assumption))))⟩
            case measure => simp [intOf]; omega
end Go.Proofs.Ytlhpkpfnaepgbaa
