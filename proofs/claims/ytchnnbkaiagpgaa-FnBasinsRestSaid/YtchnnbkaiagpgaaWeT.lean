/- The model's tick of a row, and what a row holds. -/
import Derived.Test.YtchnnbkaiagpgaaWeirS
import Derived.Test.YtchnnbkaiagpgaaRows2b
namespace Go.Proofs.Ytchnnbkaiagpgaa
open Go.RowKit

theorem weHeld_any (w : World) (aa : Option Addr) (n ca : Nat) (l : List (Int × Int × Int)) (ha : Basins w aa n ca l) (hl : RowOk l) :
    Calls Try.prog 58 #[.slice aa n ca] w fun e w' => e = .returned (.int .i64 (heldS l)) ∧ New w w' := by
  have HL := Lib.hid ha.1
  have hm := ha.2.2.1
  have n6 : n ≤ 6 := by have := ha.1; have := hl.2.1; omega
  have HA := Lib.hid ha; clear ha
  have HR := Lib.hid hl; clear hl
  go_enter Try.func58, Try.ntmps58
  go_wp2
  go_loopw [3, 8] (fun y i wr => ∃ k : Nat, k ≤ n ∧ i = .int .i64 k ∧ y = .int .i64 (heldK l k) ∧ New w wr) (fun _ i _ => n - (intOf i).toNat)
  case atStart => exact ⟨0, Nat.zero_le _, rfl, rfl, New.refl _⟩
  case round =>
    obtain ⟨k, hk, rfl, rfl, hnw⟩ := hrel
    have NW := Lib.hid hnw; clear hnw
    by_cases hlt : k < n
    · obtain ⟨bx, ox, rfl, g0, g1, g2⟩ := (HA.out.new NW.out).2.2.2.1 k hlt
      have h1 := heldK_bd HR.out k (by have := HL.out; omega)
      have h2 := HR.out.2.2 k (by have := HL.out; omega)
      unfold BasOk at h2
      go_wp2
      go_roundw
      case rel => exact ⟨k + 1, by omega, by go_num, rfl, NW.out.trans (by repeat (first | with_reducible exact New.refl _ | with_reducible assumption | refine New.drewN ?_ _ | refine New.drew ?_ | refine New.alloc ?_ _ | refine New.setCell ?_ (by first | omega | (simp; omega) | (simp; done)) _ | (refine New.trans ?_ (by assumption))))⟩
      case measure => simp [intOf]; omega
    · obtain rfl : k = n := by omega
      go_wp2
      go_ret
      exact ⟨ret_int (by unfold heldS; rw [HL.out]), NW.out⟩

/-- Two rows that grow side by side: basins and numbers. -/
structure TwoR (w0 wr : World) (vo : Value) (n : Nat) (lo : List Value) (vl : Value) (m : Nat) (ll : List Value) : Prop where
  new : New w0 wr
  outs : wr.ownsRow w0.heap.size 48 3 vo n lo
  levs : wr.ownsRow w0.heap.size 3 1 vl m ll
  apart : ∀ g, vl.ownBlock = some g → vo.ownBlock ≠ some g
theorem TwoR.kept {w0 wr w' : World} {n m : Nat} {vo vl : Value} {lo ll : List Value} (h : TwoR w0 wr vo n lo vl m ll) (k : New wr w') : TwoR w0 w' vo n lo vl m ll :=
  ⟨h.new.trans k, ownsRow_new h.outs k, ownsRow_new h.levs k, h.apart⟩
theorem TwoR.growO {w0 wr w' : World} {n m n' cap g : Nat} {vo vl : Value} {lo ll lo' : List Value} (h : TwoR w0 wr vo n lo vl m ll)
    (ho : w'.ownsRow w0.heap.size 48 3 (.slice (some ⟨g, 0, none⟩) n' cap) n' lo') (hg : wr.grownBy w' vo.ownBlock) (hb : vo.ownBlock = some g ∨ g = wr.heap.size) : TwoR w0 w' (.slice (some ⟨g, 0, none⟩) n' cap) n' lo' vl m ll :=
  ⟨New.grown h.new h.outs (Nat.le_refl _) hg, ho, rows_beside h.levs h.apart hg, rows_apart h.levs h.apart hb⟩
theorem TwoR.growL {w0 wr w' : World} {n m m' cap g : Nat} {vo vl : Value} {lo ll ll' : List Value} (h : TwoR w0 wr vo n lo vl m ll)
    (ho : w'.ownsRow w0.heap.size 3 1 (.slice (some ⟨g, 0, none⟩) m' cap) m' ll') (hg : wr.grownBy w' vl.ownBlock) (hb : vl.ownBlock = some g ∨ g = wr.heap.size) : TwoR w0 w' vo n lo (.slice (some ⟨g, 0, none⟩) m' cap) m' ll' :=
  have ap : ∀ g, vo.ownBlock = some g → vl.ownBlock ≠ some g := fun g e e' => h.apart g e' e
  ⟨New.grown h.new h.levs (Nat.le_refl _) hg, rows_beside h.outs ap hg, ho, fun q e e' => rows_apart h.outs ap hb q e' e⟩

theorem Try.infoBas : (Try.prog.info? 48).map (fun i => (i.zero, i.size, i.bytes)) = some (some (.agg #[.int .i64 0, .int .i64 0, .int .i64 0]), 3, 24) := by kernel_rfl

set_option maxRecDepth 100000 in
set_option maxHeartbeats 4000000 in
theorem weTick_any (w : World) (aa : Option Addr) (n ca : Nat) (l : List (Int × Int × Int)) (x : Int) (ha : Basins w aa n ca l) (hl : RowOk l) (x0 : 0 ≤ x) (x1 : x ≤ 1000) :
    Calls Try.prog 69 #[.slice aa n ca, .int .i64 x] w fun e w' => ∃ oa on oc sa sn sc, e = .returned (.tuple #[.slice oa on oc, .int .i64 (giveL l x), .slice sa sn sc]) ∧
      OwnBasin w' w.heap.size w'.heap.size oa on oc (tickL l x) ∧ Own w' w.heap.size w'.heap.size sa sn sc (spsK l x l.length) ∧ (∀ g, sn ≠ 0 → on ≠ 0 → blkOf sa = some g → blkOf oa ≠ some g) ∧ New w w' := by
  have HL := Lib.hid ha.1
  have n6 : n ≤ 6 := by have := ha.1; have := hl.2.1; omega
  have HA := Lib.hid ha; clear ha
  have HR := Lib.hid hl; clear hl
  obtain ⟨i0, hi, hz0, hz1, hz2⟩ := info_parts Try.infoInt
  obtain ⟨i1, hj, hy0, hy1, hy2⟩ := info_parts Try.infoBas
  go_enter Try.func69, Try.ntmps69
  go_wp2
  go_loopw [1, 7, 8, 16] (fun fl vo vs i wr => ∃ k : Nat, k ≤ n ∧ i = .int .i64 k ∧ fl = .int .i64 (inK l x k) ∧ TwoR w wr vo k (flatBasin (newK l x k)) vs k ((spsK l x k).map (Value.int .i64))) (fun _ _ _ i _ => n - (intOf i).toNat)
  case atStart => exact ⟨0, Nat.zero_le _, rfl, rfl, New.refl _, World.ownsRow_nil _ _ _ _, World.ownsRow_nil _ _ _ _, fun g e => by simp [Value.ownBlock] at e⟩
  case round =>
    obtain ⟨k, hk, rfl, rfl, htr⟩ := hrel
    have RR := Lib.hid htr; clear htr
    by_cases hlt : k < n
    · obtain ⟨bx, ox, rfl, g0, g1, g2⟩ := (HA.out.new RR.out.new).2.2.2.1 k hlt
      have kl : k < l.length := by have := HL.out; omega
      have ib := inK_bd HR.out x0 k (by omega)
      have ok := HR.out.2.2 k kl
      have SB := Lib.hid (And.intro (spB_bd ok ib.1) (And.intro (ruB_bd ok ib.1) (leB_bd ok ib.1)))
      unfold BasOk at ok
      obtain ⟨a, ha⟩ : ∃ a, a = (l[k]?.getD (0, 0, 0)).1 := ⟨_, rfl⟩
      obtain ⟨o, ho⟩ : ∃ o, o = (l[k]?.getD (0, 0, 0)).2.1 := ⟨_, rfl⟩
      obtain ⟨u, hu⟩ : ∃ u, u = (l[k]?.getD (0, 0, 0)).2.2 := ⟨_, rfl⟩
      obtain ⟨f, hf⟩ : ∃ f, f = inK l x k := ⟨_, rfl⟩
      rw [← ha] at g0 ok
      rw [← ho] at g1 ok
      rw [← hu] at g2 ok
      rw [← hf] at ib ⊢
      have EA := Lib.hid (And.intro ha (And.intro ho (And.intro hu hf))); clear ha ho hu hf
      obtain ⟨s, hs⟩ : ∃ s, s = max 0 (u + f - a) := ⟨_, rfl⟩
      obtain ⟨r, hr⟩ : ∃ r, r = min (u + f - s) o := ⟨_, rfl⟩
      have sb : 0 ≤ s ∧ s ≤ f := by omega
      have rb : 0 ≤ r ∧ r ≤ 1000 ∧ r ≤ u + f - s := by omega
      have ES := Lib.hid (show s = spB (l[k]?.getD (0, 0, 0)) (inK l x k) by unfold spB; rw [hs, EA.out.1, EA.out.2.2.1, EA.out.2.2.2])
      have ER := Lib.hid (show r = ruB (l[k]?.getD (0, 0, 0)) (inK l x k) by unfold ruB; rw [hr, EA.out.2.1, EA.out.2.2.1, EA.out.2.2.2, ES.out])
      have HS := Lib.hid hs; clear hs
      have HR2 := Lib.hid hr; clear hr
      have zb := RR.out.new.size
      go_wp2_with fail
      refine (l1Most_any _ _ _).mono ?_
      rintro e w9 ⟨rfl, rfl⟩
      rw [← HS.out]
      go_wp2_with fail
      refine (l1Least_any _ _ _).mono ?_
      rintro e w9 ⟨rfl, rfl⟩
      rw [← HR2.out]
      go_wp2_with (first
        | (at_builtin; (refine wpList_append_lies _ (by rfl) (.tmp 35) (.tmp 46) 24 (by rfl) w.heap.size 48 i1 _ 3 24 Try.underlying24 hj hy0 hy1 hy2 rfl (by decide) _ k _ (by rfl) ((RR.out.kept (by repeat (first | with_reducible exact New.refl _ | with_reducible assumption | refine New.drewN ?_ _ | refine New.drew ?_ | refine New.alloc ?_ _ | refine New.setCell ?_ (by first | omega | (simp; omega) | (simp; done)) _ | (refine New.trans ?_ (by assumption))))).outs) _ _ _ [.int .i64 a, .int .i64 o, .int .i64 (u + f - s - r)] (by rfl) (by rfl) (World.news_of_block (cs := #[.int .i64 a, .int .i64 o, .int .i64 (u + f - s - r)]) (t := 48) (fr := (0, 0)) (heap_alloc_at (by simp))) (by simp [Value.oneCell']) (by omega) (by unfold maxLen; omega) (by omega) (by simp; omega) _ rfl ?_); intro g2 cap2 w2 ho hg hb' hlt'; have R2 := TwoR.growO (RR.out.kept (by repeat (first | with_reducible exact New.refl _ | with_reducible assumption | refine New.drewN ?_ _ | refine New.drew ?_ | refine New.alloc ?_ _ | refine New.setCell ?_ (by first | omega | (simp; omega) | (simp; done)) _ | (refine New.trans ?_ (by assumption))))) ho hg hb'; have zz := R2.new.size; have RR2 := Lib.hid R2; clear R2; clear ho hg hb' hlt')
        | (at_builtin; (refine wpList_append_lies _ (by rfl) (.tmp 48) (.tmp 50) 25 (by rfl) w.heap.size 3 i0 (.int .i64 0) 1 8 Try.underlying25 hi hz0 hz1 hz2 rfl (by decide) _ k _ (by rfl) ((RR2.out.kept (by repeat (first | with_reducible exact New.refl _ | with_reducible assumption | refine New.drewN ?_ _ | refine New.drew ?_ | refine New.alloc ?_ _ | refine New.setCell ?_ (by first | omega | (simp; omega) | (simp; done)) _ | (refine New.trans ?_ (by assumption))))).levs) _ _ _ [.int .i64 s] (by rfl) (by rfl) (World.news_of_block (cs := #[.int .i64 s]) (t := 3) (fr := (0, 0)) (heap_alloc_at (by simp))) (by simp [Value.oneCell']) (by omega) (by unfold maxLen; omega) (by omega) (by simp; omega) _ rfl ?_); intro g3 cap3 w3 ho hg hb' hlt'; have R3 := TwoR.growL (RR2.out.kept (by repeat (first | with_reducible exact New.refl _ | with_reducible assumption | refine New.drewN ?_ _ | refine New.drew ?_ | refine New.alloc ?_ _ | refine New.setCell ?_ (by first | omega | (simp; omega) | (simp; done)) _ | (refine New.trans ?_ (by assumption))))) ho hg hb'; have RR3 := Lib.hid R3; clear R3; clear ho hg hb' hlt'))
      go_roundw
      case rel =>
        refine ⟨k + 1, by omega, by go_num, congrArg (Value.int .i64) (show s + r = ouB (l[k]?.getD (0, 0, 0)) (inK l x k) by unfold ouB; rw [← ES.out, ← ER.out]), ?_⟩
        rw [newK_succ, flatBasin_append, spsK_succ, List.map_append]
        have e1 : flatBasin [stB (l[k]?.getD (0, 0, 0)) (inK l x k)] = [.int .i64 a, .int .i64 o, .int .i64 (u + f - s - r)] := by
          unfold stB leB
          rw [← ES.out, ← ER.out, ← EA.out.1, ← EA.out.2.1, ← EA.out.2.2.1, ← EA.out.2.2.2]
          rfl
        rw [e1, ← ES.out]
        exact RR3.out
      case measure => simp [intOf]; omega
    · obtain rfl : k = n := by omega
      go_wp2
      have e1 : newK l x k = tickL l x := by unfold tickL; rw [HL.out]
      have e2 : spsK l x k = spsK l x l.length := by rw [HL.out]
      have e3 : inK l x k = giveL l x := by unfold giveL; rw [HL.out]
      have ap := RR.out.apart
      obtain ⟨oa, oc, e4, o1⟩ := OwnBasin.of_row RR.out.outs
      obtain ⟨la, lc, e5, o2⟩ := Own.of_row RR.out.levs
      subst e4 e5
      go_ret3
      refine ⟨_, _, _, _, _, _, by rw [← e3]; rfl, e1 ▸ o1, e2 ▸ o2, fun g h1 h2 e6 e7 => ?_, RR.out.new⟩
      rcases o1.2.2.2 with q | ⟨b, f, rfl, q1, q2, q3, q4⟩
      · exact h2 q.1
      · rcases o2.2.2.2 with p | ⟨b', f', rfl, p1, p2, p3, p4⟩
        · exact h1 p.1
        · simp [blkOf] at e6 e7
          exact ap g (by simp [Value.ownBlock, e6]) (by simp [Value.ownBlock, e7])
end Go.Proofs.Ytchnnbkaiagpgaa
