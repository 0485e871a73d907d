/- The program's functions on chains of siphons. -/
import Derived.Test.YtafiihhiipfejaaRunI
import Derived.Test.YtafiihhiipfejaaChain
import Derived.Test.YtafiihhiipfejaaGrowSS
namespace Go.Proofs.Ytafiihhiipfejaa
open Go.RowKit

set_option maxHeartbeats 2000000 in
theorem isChain_any (w : World) (aa : Option Addr) (n ca : Nat) (l : List (Int × Int × Int × Int)) (ha : Siphons w aa n ca l) :
    Calls Try.prog 42 #[.slice aa n ca] w fun e w' => e = .returned (.bool (chainB l)) ∧ New w w' := by
  have HL := Lib.hid ha.1
  have hm := ha.2.2.1
  have HA := Lib.hid ha; clear ha
  by_cases h1 : n < 1
  · have HF := Lib.hid (show chainB l = false from chainB_false.2 fun h => by have := h.1; have := HL.out; omega)
    obtain rfl : n = 0 := by omega
    go_enter Try.func42, Try.ntmps42
    go_wp2
    go_ret
    exact ⟨ret_bool HF.out.symm, New.refl _⟩
  · by_cases h4 : 4 < n
    · have HF := Lib.hid (show chainB l = false from chainB_false.2 fun h => by have := h.1; have := HL.out; omega)
      have h1f : decide ((n : Int) < 1) = false := decide_eq_false (by omega)
      go_enter Try.func42, Try.ntmps42
      go_wp2
      go_ret
      exact ⟨ret_bool HF.out.symm, New.refl _⟩
    · have n1 : 1 ≤ (n : Int) := by omega
      have n4 : (n : Int) ≤ 4 := by omega
      have h1f : decide ((n : Int) < 1) = false := decide_eq_false (by omega)
      go_enter Try.func42, Try.ntmps42
      go_wp2
      clear h1f
      go_loopw [15] (fun i wr => ∃ k : Nat, k ≤ n ∧ i = .int .i64 k ∧ (∀ j, j < k → okAt l j = true) ∧ New w wr) (fun i _ => n - (intOf i).toNat)
      case atStart => exact ⟨0, Nat.zero_le _, rfl, fun j hj => absurd hj (by omega), New.refl _⟩
      case round =>
        obtain ⟨k, hk, rfl, hpre, hnw⟩ := hrel
        have HP := Lib.hid hpre; clear hpre
        have NW := Lib.hid hnw; clear hnw
        by_cases hlt : k < n
        · obtain ⟨bx, ox, rfl, g0, g1, g2, g3⟩ := (HA.out.new NW.out).2.2.2.1 k hlt
          by_cases hb : okAt l k = true
          · have HB := Lib.hid (show sipB (l[k]?.getD (0, 0, 0, 0)).1 (l[k]?.getD (0, 0, 0, 0)).2.1 (l[k]?.getD (0, 0, 0, 0)).2.2.1 (l[k]?.getD (0, 0, 0, 0)).2.2.2 = true from hb)
            go_wp2_with fail
            refine (iIsSiphon_any _ _ _ _ _).mono ?_
            rintro e w2 ⟨he, n2⟩
            rw [HB.out] at he
            subst he
            have N2 := Lib.hid (show New wr w2 from New.trans (by repeat (first | with_reducible exact New.refl _ | with_reducible assumption | refine New.drewN ?_ _ | refine New.drew ?_ | refine New.alloc ?_ _ | refine New.setCell ?_ (by first | omega | (simp; omega) | (simp; done)) _ | (refine New.trans ?_ (by assumption)))) n2); clear n2
            go_wp2
            go_roundw
            case rel =>
              refine ⟨k + 1, by omega, by go_num, fun j hj => ?_, NW.out.trans N2.out⟩
              by_cases e : j = k
              · subst e; exact hb
              · exact HP.out j (by omega)
            case measure => simp [intOf]; omega
          · have HB := Lib.hid (show sipB (l[k]?.getD (0, 0, 0, 0)).1 (l[k]?.getD (0, 0, 0, 0)).2.1 (l[k]?.getD (0, 0, 0, 0)).2.2.1 (l[k]?.getD (0, 0, 0, 0)).2.2.2 = false by simpa [okAt, sipAt] using hb)
            have HF := Lib.hid (show chainB l = false from chainB_false.2 fun h => hb (h.2 k (by have := HL.out; omega)))
            clear hb
            go_wp2_with fail
            refine (iIsSiphon_any _ _ _ _ _).mono ?_
            rintro e w2 ⟨he, n2⟩
            rw [HB.out] at he
            subst he
            have N2 := Lib.hid (show New wr w2 from New.trans (by repeat (first | with_reducible exact New.refl _ | with_reducible assumption | refine New.drewN ?_ _ | refine New.drew ?_ | refine New.alloc ?_ _ | refine New.setCell ?_ (by first | omega | (simp; omega) | (simp; done)) _ | (refine New.trans ?_ (by assumption)))) n2); clear n2
            go_wp2
            go_ret
            exact ⟨ret_bool HF.out.symm, NW.out.trans N2.out⟩
        · have HF := Lib.hid (show chainB l = true from chainB_iff.2 ⟨⟨by have := HL.out; omega, by have := HL.out; omega⟩, fun j hj => HP.out j (by have := HL.out; omega)⟩)
          go_wp2
          go_ret
          exact ⟨ret_bool HF.out.symm, NW.out⟩

set_option maxRecDepth 100000 in
set_option maxHeartbeats 4000000 in
theorem iChainOuts_any (w : World) (aa : Option Addr) (n ca : Nat) (l : List (Int × Int × Int × Int)) (ab : Option Addr) (m cb : Nat) (xs : List Int) (ha : Siphons w aa n ca l) (hx : Ints w ab m cb xs) :
    Calls Try.prog 25 #[.slice aa n ca, .slice ab m cb] w fun e w' => ∃ oa on oc, e = .returned (.tuple #[.slice oa on oc, .bool (chainB l && infB xs)]) ∧ OwnSS w' w.heap.size w'.heap.size oa on oc (chainM l xs) ∧ New w w' := by
  have HL := Lib.hid ha.1
  have HM := Lib.hid hx.1
  have hm1 := ha.2.2.1
  have hm2 := hx.2.2.1
  have HA := Lib.hid ha; clear ha
  have HX := Lib.hid hx; clear hx
  obtain ⟨i0, hi, hz0, hz1, hz2⟩ := info_parts Try.infoInts
  by_cases hc : chainB l = true
  · by_cases hm : m ≤ 100
    · by_cases hb : infB xs = true
      · have hi' : infB xs = true := hb
        have YES := Lib.hid (And.intro (show (chainB l && infB xs) = true by rw [hc, hi']; rfl) (chainM_yes (show (chainB l && infB xs) = true by rw [hc, hi']; rfl)))
        have CO := Lib.hid (chainB_iff.1 hc)
        have FO := Lib.hid (fun k hk => feed_ok (l := l) (xs := xs) CO.out hi' k hk)
        have n4 : n ≤ 4 := by have := CO.out.1; have := HL.out; omega
        go_enter Try.func25, Try.ntmps25
        go_wp2_with fail
        refine (isChain_any _ _ _ _ l HA.out).mono ?_
        rintro e w1 ⟨rfl, n1⟩
        have N1 := Lib.hid n1; clear n1
        go_wp2_with fail
        refine (areInflows_any _ _ _ _ xs (HX.out.new N1.out)).mono ?_
        rintro e w9 ⟨rfl, rfl⟩
        go_wp2
        clear hc hb hi'
        go_loopw [1, 6, 21] (fun fi v i wr => ∃ (k : Nat) (hd : Nat → Option Addr × Nat × Nat), k ≤ n ∧ i = .int .i64 k ∧ FeedAt (.slice ab m cb) hd k fi ∧ GrowSS w.heap.size wr v k hd (chainTo l xs k) ∧ New w wr) (fun _ _ i _ => n - (intOf i).toNat)
        case atStart => exact ⟨0, fun _ => (none, 0, 0), Nat.zero_le _, rfl, .inl ⟨rfl, rfl⟩, GrowSS.nil _ _ _, N1.out⟩
        case round =>
          obtain ⟨k, hd, hk, rfl, hfe, hgr, hnw⟩ := hrel
          have NW := Lib.hid hnw; clear hnw
          have GR := Lib.hid hgr; clear hgr
          obtain ⟨fa, fn, fc, rfl, hI⟩ := hfe.ints (l := l) HX.out NW.out GR.out
          have FE := Lib.hid hfe; clear hfe
          have II := Lib.hid hI; clear hI
          have zw := NW.out.size
          by_cases hlt : k < n
          · obtain ⟨bx, ox, rfl, g0, g1, g2, g3⟩ := (HA.out.new NW.out).2.2.2.1 k hlt
            have RB := Lib.hid (show runB (l[k]?.getD (0, 0, 0, 0)).1 (l[k]?.getD (0, 0, 0, 0)).2.1 (l[k]?.getD (0, 0, 0, 0)).2.2.1 (l[k]?.getD (0, 0, 0, 0)).2.2.2 0 (feed l xs k) = true from run_at (CO.out.2 k (by have := HL.out; omega)) (FO.out k (by have := HL.out; omega)).2)
            go_wp2_with fail
            refine (courseOf_yes _ _ _ _ _ 0 false _ _ _ (feed l xs k) (II.out.new (by repeat (first | with_reducible exact New.refl _ | with_reducible assumption | refine New.drewN ?_ _ | refine New.drew ?_ | refine New.alloc ?_ _ | refine New.setCell ?_ (by first | omega | (simp; omega) | (simp; done)) _ | (refine New.trans ?_ (by assumption))))) RB.out).mono ?_
            rintro e w2 ⟨la, ln, lc, oa, on, oc, rfl, o2, o1, n2⟩
            clear o2
            have O1 := Lib.hid o1; clear o1
            have zz := n2.size
            simp at zz
            clear g0 g1 g2 g3
            go_wp2_with (at_builtin; (refine wpList_append_lies _ (by rfl) (.tmp 32) (.tmp 35) 40 (by rfl) w.heap.size 29 i0 (.slice none 0 0) 1 24 Try.underlying40 hi hz0 hz1 hz2 rfl (by decide) _ k _ (by rfl) ((GR.out.new (by repeat (first | with_reducible exact New.refl _ | with_reducible assumption | refine New.drewN ?_ _ | refine New.drew ?_ | refine New.alloc ?_ _ | refine New.setCell ?_ (by first | omega | (simp; omega) | (simp; done)) _ | (refine New.trans ?_ (by assumption))))).row) _ _ _ [.slice oa on oc] (by rfl) (by rfl) (World.news_of_block (cs := #[.slice oa on oc]) (t := 29) (fr := (0, 0)) (heap_alloc_at (by simp))) (by simp [Value.oneCell']) (by omega) (by unfold maxLen; omega) (by omega) (by first | omega | (simp; omega) | (simp; done)) _ rfl ?_; intro g cap w3 ho hg hb' hlt'; have R2 := GrowSS.snoc (GR.out.new (by repeat (first | with_reducible exact New.refl _ | with_reducible assumption | refine New.drewN ?_ _ | refine New.drew ?_ | refine New.alloc ?_ _ | refine New.setCell ?_ (by first | omega | (simp; omega) | (simp; done)) _ | (refine New.trans ?_ (by assumption))))) (by first | omega | (simp; omega) | (simp; done)) n2 O1.out (by repeat (first | with_reducible exact New.refl _ | with_reducible assumption | refine New.drewN ?_ _ | refine New.drew ?_ | refine New.alloc ?_ _ | refine New.setCell ?_ (by first | omega | (simp; omega) | (simp; done)) _ | (refine New.trans ?_ (by assumption)))) ho hg hb'; have N3 := Lib.hid (New.grown (w0 := w) (NW.out.trans (by repeat (first | with_reducible exact New.refl _ | with_reducible assumption | refine New.drewN ?_ _ | refine New.drew ?_ | refine New.alloc ?_ _ | refine New.setCell ?_ (by first | omega | (simp; omega) | (simp; done)) _ | (refine New.trans ?_ (by assumption))))) (GR.out.new (by repeat (first | with_reducible exact New.refl _ | with_reducible assumption | refine New.drewN ?_ _ | refine New.drew ?_ | refine New.alloc ?_ _ | refine New.setCell ?_ (by first | omega | (simp; omega) | (simp; done)) _ | (refine New.trans ?_ (by assumption))))).row (Nat.le_refl _) hg); have VL := GR.out.row.lt; have c1 : w3.cell? ⟨w2.heap.size, 1, none⟩ = some (.slice oa on oc) := hg.cell (by simp) (fun e => by have := (VL _ e.symm).2; simp at this; omega); have G2 := Lib.hid R2; clear R2 ho hg hb' hlt' VL))
            go_roundw
            case rel =>
              refine ⟨k + 1, fun j => if j = k then (oa, on, oc) else hd j, by omega, by go_num, .inr ⟨k, rfl, by simp⟩, ?_, N3.out⟩
              rw [chainTo_succ]; exact G2.out
            case measure => simp [intOf]; omega
          · obtain rfl : k = n := by omega
            go_wp2
            obtain ⟨oa, oc, e1, o1⟩ := GR.out.done
            subst e1
            go_ret2
            refine ⟨_, _, _, by rw [YES.out.1]; rfl, ?_, NW.out⟩
            rw [YES.out.2, ← HL.out]
            exact o1
      · have hb' : infB xs = false := by simpa using hb
        have NO := Lib.hid (show (chainB l && infB xs) = false ∧ chainM l xs = [] from ⟨by rw [hb']; simp, chainM_no (by rw [hb']; simp)⟩)
        go_enter Try.func25, Try.ntmps25
        go_wp2_with fail
        refine (isChain_any _ _ _ _ l HA.out).mono ?_
        rintro e w1 ⟨rfl, n1⟩
        have N1 := Lib.hid n1; clear n1
        go_wp2_with fail
        refine (areInflows_any _ _ _ _ xs (HX.out.new N1.out)).mono ?_
        rintro e w9 ⟨rfl, rfl⟩
        go_wp2
        go_ret2
        exact ⟨none, 0, 0, by rw [NO.out.1]; rfl, by rw [NO.out.2]; exact OwnSS.nil _ _ _, N1.out⟩
    · have hb' : infB xs = false := by unfold infB; rw [decide_eq_false (by have := HM.out; omega)]; rfl
      have NO := Lib.hid (show (chainB l && infB xs) = false ∧ chainM l xs = [] from ⟨by rw [hb']; simp, chainM_no (by rw [hb']; simp)⟩)
      go_enter Try.func25, Try.ntmps25
      go_wp2_with fail
      refine (isChain_any _ _ _ _ l HA.out).mono ?_
      rintro e w1 ⟨rfl, n1⟩
      have N1 := Lib.hid n1; clear n1
      go_wp2_with fail
      refine (areInflows_any _ _ _ _ xs (HX.out.new N1.out)).mono ?_
      rintro e w9 ⟨rfl, rfl⟩
      go_wp2
      go_ret2
      exact ⟨none, 0, 0, by rw [NO.out.1]; rfl, by rw [NO.out.2]; exact OwnSS.nil _ _ _, N1.out⟩
  · have hc' : chainB l = false := by simpa using hc
    have NO := Lib.hid (show (chainB l && infB xs) = false ∧ chainM l xs = [] from ⟨by rw [hc']; rfl, chainM_no (by rw [hc']; rfl)⟩)
    go_enter Try.func25, Try.ntmps25
    go_wp2_with fail
    refine (isChain_any _ _ _ _ l HA.out).mono ?_
    rintro e w1 ⟨rfl, n1⟩
    have N1 := Lib.hid n1; clear n1
    go_wp2
    go_ret2
    exact ⟨none, 0, 0, by rw [NO.out.1]; rfl, by rw [NO.out.2]; exact OwnSS.nil _ _ _, N1.out⟩
end Go.Proofs.Ytafiihhiipfejaa
