/- GroupsOf: the model's walk. -/
import Derived.Test.YtlhpkpfnaepgbaaGroS
import Derived.IntWalk
namespace Go.Proofs.Ytlhpkpfnaepgbaa
open Go.RowKit Go.IntWalk

def flagN : Value → Nat
  | .bool true => 1
  | _ => 0
theorem l1Least_any (a b : Int) (w : World) : Calls Try.prog 46 #[.int .i64 a, .int .i64 b] w fun e w' => e = .returned (.int .i64 (min a b)) ∧ w' = w := by
  by_cases h : a < b
  · go_enter Try.func46, Try.ntmps46
    go_wp2
    go_ret
    exact ⟨ret_int (by omega), rfl⟩
  · go_enter Try.func46, Try.ntmps46
    go_wp2
    go_ret
    exact ⟨ret_int (by omega), rfl⟩

set_option maxRecDepth 100000 in
set_option maxHeartbeats 4000000 in
theorem leGroups_any (w : World) (n : Nat) (ab : Option Addr) (m cb : Nat) (L : List (List Int)) (hb : IntSS w ab m cb L) (hj : jnB n L = true) (hn : n ≤ 6) :
    Calls Try.prog 26 #[.int .i64 n, .slice ab m cb] w fun e w' => ∃ oa on oc, e = .returned (.slice oa on oc) ∧ OwnSS w' w.heap.size w'.heap.size oa on oc (grsTo n (leadP (jP L)) n) ∧ New w w' := by
  have HN := Lib.hid hb.1
  have hm : m ≤ 15 := by have := jnB_few hj; have := HN.out; omega
  have HB := Lib.hid hb; clear hb
  have HJ := Lib.hid hj; clear hj
  obtain ⟨f, hf⟩ : ∃ f, f = leadP (jP L) := ⟨_, rfl⟩
  rw [← hf]
  have HF := Lib.hid hf; clear hf
  obtain ⟨i0, hi, hz0, hz1, hz2⟩ := info_parts Try.infoInt
  obtain ⟨i1, hi1, hy0, hy1, hy2⟩ := info_parts Try.infoInts
  have hmk := run_make_row' (P := Try.prog) 43 3 (.int .i64 0) 8 Try.underlying43 Try.infoInt rfl .i64 .i64 n (by omega) (by omega)
  go_enter Try.func26, Try.ntmps26
  go_upto_region 2 with fail
  obtain ⟨w1, hw1⟩ : ∃ u : World, u = w.alloc (.cells (madeCells #[.int .i64 0] n) 3) := ⟨_, rfl⟩
  rw [← hw1]
  have N1 := Lib.hid (show New w w1 by rw [hw1]; exact (New.refl _).alloc _)
  have R1 := Lib.hid (show w1.rowIs w.heap.size 3 n (fun _ => .int .i64 0) by rw [hw1]; exact World.rowIs_made w (.int .i64 0) n 3)
  clear hw1 hmk
  obtain ⟨B, hB⟩ : ∃ B, B = w.heap.size := ⟨_, rfl⟩
  have BL : w.heap.size ≤ B := by omega
  rw [← hB] at R1 ⊢
  clear hB
  go_wp2_with fail
  go_loopw [22] (fun i wr => ∃ k : Nat, k ≤ n ∧ i = .int .i64 k ∧ wr.rowIs B 3 n (fun j => .int .i64 ((if j < k then j else 0 : Nat) : Int)) ∧ New w wr) (fun i _ => n - (intOf i).toNat)
  case atStart => exact ⟨0, Nat.zero_le _, rfl, R1.out.congr fun j _ => by simp, N1.out⟩
  case round =>
    obtain ⟨k, hk, rfl, hrow, hnew⟩ := hrel
    have HR := Lib.hid hrow; clear hrow
    have NW := Lib.hid hnew; clear hnew
    by_cases hlt : k < n
    · have hd := HR.out.cell hlt
      have hfz := HR.out.frozen k
      simp only [Nat.lt_irrefl, if_false] at hd
      go_wp2
      go_roundw
      case rel =>
        refine ⟨k + 1, by omega, by go_num, (HR.out.set k _).congr fun j hj => ?_, NW.out.setCell (by simp; omega) _⟩
        by_cases e : j = k
        · rw [if_pos e, e, if_pos (by omega)]
        · rw [if_neg e]
          by_cases e2 : j < k
          · rw [if_pos e2, if_pos (by omega)]
          · rw [if_neg e2, if_neg (by omega)]
      case measure => simp [intOf]; omega
    · obtain rfl : k = n := by omega
      have HR2 := Lib.hid (show wr.rowIs B 3 k (fun j => .int .i64 ((id j : Nat) : Int)) from HR.out.congr fun j hj => by rw [if_pos hj]; rfl)
      clear HR R1 N1
      go_wp2_with fail
      obtain ⟨w2, rfl⟩ : ∃ u : World, u = wr := ⟨_, rfl⟩
      go_loopw [7] (fun a wr => ∃ (g : Nat → Nat) (c : Bool), a = .bool c ∧ wr.rowIs B 3 k (fun j => .int .i64 ((g j : Nat) : Int)) ∧ Below (jP L) g ∧ (c = false → ∀ p ∈ jP L, g p.1 = g p.2) ∧ New w wr) (fun a wr => 2 * rowSum wr B k + flagN a)
      case atStart => exact ⟨id, true, rfl, HR2.out, below_id _, (fun e => by cases e), NW.out⟩
      case round =>
        obtain ⟨g0, c0, rfl, hrow, hbl, hdone, hnew⟩ := hrel
        clear HR2 NW
        have HR := Lib.hid hrow; clear hrow
        have NW := Lib.hid hnew; clear hnew
        have BG := Lib.hid hbl; clear hbl
        have DN := Lib.hid hdone; clear hdone
        cases c0
        case true =>
          have RS := Lib.hid (rowSum_is HR.out)
          go_wp2_with fail
          obtain ⟨w3, rfl⟩ : ∃ u : World, u = wr := ⟨_, rfl⟩
          go_loopw [7, 33] (fun a i wr => ∃ (q : Nat) (g : Nat → Nat) (c : Bool), q ≤ m ∧ a = .bool c ∧ i = .int .i64 q ∧ wr.rowIs B 3 k (fun j => .int .i64 ((g j : Nat) : Int)) ∧ Pass (jP L) k g0 q g c ∧ New w wr) (fun _ i _ => m - (intOf i).toNat)
          case atStart => exact ⟨0, g0, false, Nat.zero_le _, rfl, rfl, HR.out, Pass.begin BG.out, NW.out⟩
          case round =>
            obtain ⟨q, ga, ca, hq, rfl, rfl, hrow, hps, hnew⟩ := hrel
            have HR3 := Lib.hid hrow; clear hrow
            have NW3 := Lib.hid hnew; clear hnew
            have PS := Lib.hid hps; clear hps
            by_cases hlt2 : q < m
            · have KL := Lib.hid (show q < L.length by have := HN.out; omega)
              have JP := Lib.hid (show (jP L)[q]?.getD (0, 0) = _ from jP_get KL.out)
              have jk := jok_parts (jnB_row HJ.out KL.out)
              obtain ⟨b, o, a, n2, c, rfl, hcw, hi_⟩ := HB.out.2.2.2.1 q hlt2
              obtain ⟨l, hl⟩ : ∃ l, l = L[q]?.getD [] := ⟨_, rfl⟩
              rw [← hl] at jk hi_
              have JQ := Lib.hid (show (jP L)[q]?.getD (0, 0) = ((l[0]?.getD (0 : Int)).toNat, (l[1]?.getD (0 : Int)).toNat) by rw [JP.out, hl])
              clear hl JP
              obtain ⟨jl, j0, j1, j2, j3⟩ := jk
              have hn2 : n2 = 2 := by rw [hi_.1]; exact jl
              subst hn2
              obtain ⟨b1, o1, rfl, x0w, _⟩ := hi_.at (j := 0) (by omega)
              obtain ⟨b2, o2, eb, x1w, _⟩ := hi_.at (j := 1) (by omega)
              cases eb
              rw [Nat.add_zero] at x0w
              obtain ⟨x, hx⟩ : ∃ x : Nat, l[0]?.getD (0 : Int) = x := ⟨(l[0]?.getD (0 : Int)).toNat, by omega⟩
              obtain ⟨y, hy⟩ : ∃ y : Nat, l[1]?.getD (0 : Int) = y := ⟨(l[1]?.getD (0 : Int)).toNat, by omega⟩
              rw [hx] at x0w j0 j1 JQ
              rw [hy] at x1w j2 j3 JQ
              simp only [Int.toNat_natCast] at JQ
              have x6 : x < k := by omega
              have y6 : y < k := by omega
              have y7 : (y : Int) < (k : Int) := by omega
              have x7 : (x : Int) < (k : Int) := by omega
              have y8 : (0 : Int) ≤ (y : Int) := by omega
              have x8 : (0 : Int) ≤ (x : Int) := by omega
              clear hx hy hi_ jl j0 j1 j2 j3
              have hc := NW3.out.cell hcw
              have x0 := NW3.out.cell x0w
              have x1 := NW3.out.cell x1w
              have cx := HR3.out.cell (i := x) x6
              have cy := HR3.out.cell (i := y) y6
              have hmn : min ((ga x : Nat) : Int) ((ga y : Nat) : Int) = ((min (ga x) (ga y) : Nat) : Int) := by omega
              have MEM := Lib.hid (show (x, y) ∈ jP L by
                have h1 : q < (jP L).length := by rw [jP_length]; exact KL.out
                have := JQ.out
                rw [List.getElem?_eq_getElem h1] at this
                simp only [Option.getD_some] at this
                rw [← this]; exact List.getElem_mem h1)
              go_wp2_with fail
              go_quiet ((go_at_call 46; exact Calls.quiet_of_same (l1Least_any _ _ _)))
              rw [hmn]
              clear hmn cx cy
              have HH := Lib.hid (PS.out.half x y)
              obtain ⟨ms, hms⟩ : ∃ ms, ms = min (ga x) (ga y) := ⟨_, rfl⟩
              rw [← hms] at HH ⊢
              have EM := Lib.hid hms; clear hms
              have NQ := Lib.hid (show New wr (wr.drewN nq) from (New.refl _).drewN _)
              obtain ⟨w4, hw4⟩ : ∃ u : World, u = wr.drewN nq := ⟨_, rfl⟩
              rw [← hw4] at NQ ⊢
              clear hw4
              have HR4 := Lib.hid (HR3.out.of_block (NQ.out.block _ HR3.out.lt))
              have NW4 := Lib.hid (NW3.out.trans NQ.out)
              clear x0 x1 hc HR3 NQ
              go_wp2_with fail
              go_loopw [7, 52] (fun a i wq => ∃ (r : Nat) (g : Nat → Nat) (c : Bool), r ≤ 2 ∧ a = .bool c ∧ i = .int .i64 r ∧ wq.rowIs B 3 k (fun j => .int .i64 ((g j : Nat) : Int)) ∧ Half (jP L) k g0 ga ca x y ms r g c ∧ New w wq) (fun _ i _ => 2 - (intOf i).toNat)
              case atStart => exact ⟨0, ga, ca, by omega, rfl, rfl, HR4.out, HH.out, NW4.out⟩
              case round =>
                obtain ⟨r, g, c9, hr, rfl, rfl, hrow, hhf, hnew⟩ := hrel
                clear HR4 NW4 HH
                have HR5 := Lib.hid hrow; clear hrow
                have NW5 := Lib.hid hnew; clear hnew
                have HQ := Lib.hid hhf; clear hhf
                have x0 := NW5.out.cell x0w
                have x1 := NW5.out.cell x1w
                have cx := HR5.out.cell (i := x) x6
                have cy := HR5.out.cell (i := y) y6
                have fx := HR5.out.frozen x
                have fy := HR5.out.frozen y
                have rc : r = 0 ∨ r = 1 ∨ r = 2 := by omega
                rcases rc with rfl | rfl | rfl
                · skip
                  by_cases hg : ms < g x
                  · have hgI : ((ms : Nat) : Int) < ((g x : Nat) : Int) := by omega
                    go_wp2
                    go_roundw
                    case rel => exact ⟨1, putG g x ms, true, by omega, rfl, rfl, putG_row HR5.out x ms, HQ.out.put MEM.out (.inl rfl) x6 hg 1, NW5.out.setCell (by simp; omega) _⟩
                    case measure => simp [intOf]
                  · have hgI : ¬ ((ms : Nat) : Int) < ((g x : Nat) : Int) := by omega
                    go_wp2
                    go_roundw
                    case rel => exact ⟨1, g, c9, by omega, rfl, rfl, HR5.out, HQ.out.stay0 (by omega), NW5.out⟩
                    case measure => simp [intOf]
                · skip
                  by_cases hg : ms < g y
                  · have hgI : ((ms : Nat) : Int) < ((g y : Nat) : Int) := by omega
                    go_wp2
                    go_roundw
                    case rel => exact ⟨2, putG g y ms, true, by omega, rfl, rfl, putG_row HR5.out y ms, HQ.out.put MEM.out (.inr rfl) y6 hg 2, NW5.out.setCell (by simp; omega) _⟩
                    case measure => simp [intOf]
                  · have hgI : ¬ ((ms : Nat) : Int) < ((g y : Nat) : Int) := by omega
                    go_wp2
                    go_roundw
                    case rel => exact ⟨2, g, c9, by omega, rfl, rfl, HR5.out, HQ.out.stay1 (by omega), NW5.out⟩
                    case measure => simp [intOf]
                · go_wp2_with fail
                  go_roundw
                  case rel =>
                    have hq := HQ.out
                    rw [EM.out] at hq
                    exact ⟨q + 1, g, c9, by omega, rfl, by go_num, HR5.out, hq.done (by rw [jP_length]; exact KL.out) JQ.out PS.out, NW5.out⟩
                  case measure => simp [intOf]; omega
            · obtain rfl : q = m := by omega
              go_wp2_with fail
              go_roundw
              case rel =>
                refine ⟨ga, ca, rfl, HR3.out, PS.out.below, fun e p hp => PS.out.same e p ?_, NW3.out⟩
                rw [List.take_of_length_le (by rw [jP_length]; have := HN.out; omega)]
                exact hp
              case measure =>
                have q1 := rowSum_is HR3.out
                have q2 := RS.out
                have q3 := PS.out.le
                show 2 * rowSum wr B k + flagN (.bool ca) < 2 * rowSum w3 B k + flagN (.bool true)
                rw [q1, q2]
                cases ca
                · show 2 * sumG ga k + 0 < 2 * sumG g0 k + 1; omega
                · have q4 := PS.out.less rfl
                  show 2 * sumG ga k + 1 < 2 * sumG g0 k + 1; omega
        case false =>
          have HR6 := Lib.hid (show wr.rowIs B 3 k (fun j => .int .i64 ((f j : Nat) : Int)) from HR.out.congr fun j _ => by rw [below_done BG.out (DN.out rfl) j, HF.out])
          clear HR BG DN
          obtain ⟨w4, rfl⟩ : ∃ u : World, u = wr := ⟨_, rfl⟩
          go_wp2_with fail
          go_loopw [13, 70] (fun v i wr => ∃ (p q : Nat) (hd : Nat → Option Addr × Nat × Nat), p ≤ k ∧ q ≤ p ∧ i = .int .i64 p ∧ GrowSS w4.heap.size wr v q hd (grsTo k f p) ∧ New w4 wr) (fun _ i _ => k - (intOf i).toNat)
          case atStart => exact ⟨0, 0, fun _ => (none, 0, 0), Nat.zero_le _, Nat.le_refl _, rfl, GrowSS.nil _ _ _, New.refl _⟩
          case round =>
            obtain ⟨p, q, hd, hp, hqp, rfl, hgr, hnw⟩ := hrel
            have zw := hnw.size
            have NX := Lib.hid hnw; clear hnw
            have GR := Lib.hid hgr; clear hgr
            by_cases hlt : p < k
            · have cp := NX.out.cell (HR6.out.cell hlt)
              have GS := Lib.hid (grsTo_succ k f p)
              by_cases fk : f p = p
              · have fkI : ((f p : Nat) : Int) = (p : Int) := by omega
                go_wp2_with fail
                obtain ⟨w5, rfl⟩ : ∃ u : World, u = wr := ⟨_, rfl⟩
                go_loopw [15, 81] (fun vo i wq => ∃ j s : Nat, j ≤ k ∧ s ≤ j ∧ i = .int .i64 j ∧ New w5 wq ∧ wq.ownsRow w5.heap.size 3 1 vo s ((grpI j f p).map (Value.int .i64))) (fun _ i _ => k - (intOf i).toNat)
                case atStart => exact ⟨0, 0, Nat.zero_le _, Nat.le_refl _, rfl, New.refl _, World.ownsRow_nil _ _ _ _⟩
                case round =>
                  obtain ⟨j, s, hj, hsj, rfl, hnq, hro⟩ := hrel
                  have zb := hnq.size
                  have NQ := Lib.hid hnq; clear hnq
                  have RO := Lib.hid hro; clear hro
                  by_cases hjn : j < k
                  · have cj := (NX.out.trans NQ.out).cell (HR6.out.cell hjn)
                    have GI := Lib.hid (grpI_succ j f p)
                    by_cases hx : f j = p
                    · have hxI : ((f j : Nat) : Int) = (p : Int) := by omega
                      go_wp2_with (at_builtin; go_loud (refine wpList_append_lies _ (by rfl) (.tmp 89) (.tmp 91) 43 (by rfl) w5.heap.size 3 i0 (.int .i64 0) 1 8 Try.underlying43 hi hz0 hz1 hz2 rfl (by decide) _ s _ (by rfl) (ownsRow_new RO.out (by repeat (first | with_reducible exact New.refl _ | with_reducible assumption | refine New.drewN ?_ _ | refine New.drew ?_ | refine New.alloc ?_ _ | refine New.setCell ?_ (by first | omega | (simp; omega) | (simp; done)) _ | (refine New.trans ?_ (by assumption))))) _ _ _ [.int .i64 j] (by rfl) (by rfl) (World.news_of_block (cs := #[.int .i64 j]) (t := 3) (fr := (0, 0)) (heap_alloc_at (by simp))) (by simp [Value.oneCell']) (by omega) (by unfold maxLen; omega) (by omega) (by simp; omega) _ rfl ?_; intro g cap w6 ho hg hb' hlt'; have N6 := Lib.hid (New.grown (w0 := w5) (w := _) (NQ.out.trans (by repeat (first | with_reducible exact New.refl _ | with_reducible assumption | refine New.drewN ?_ _ | refine New.drew ?_ | refine New.alloc ?_ _ | refine New.setCell ?_ (by first | omega | (simp; omega) | (simp; done)) _ | (refine New.trans ?_ (by assumption))))) (ownsRow_new RO.out (by repeat (first | with_reducible exact New.refl _ | with_reducible assumption | refine New.drewN ?_ _ | refine New.drew ?_ | refine New.alloc ?_ _ | refine New.setCell ?_ (by first | omega | (simp; omega) | (simp; done)) _ | (refine New.trans ?_ (by assumption))))) (by omega) hg); have RO6 := Lib.hid ho; clear ho hg hb' hlt'))
                      go_roundw
                      case rel =>
                        refine ⟨j + 1, s + 1, by omega, by omega, by go_num, N6.out, ?_⟩
                        rw [GI.out, if_pos hx, List.map_append]
                        exact RO6.out
                      case measure => simp [intOf]; omega
                    · have hxI : ¬ ((f j : Nat) : Int) = (p : Int) := by omega
                      go_wp2
                      go_roundw
                      case rel =>
                        refine ⟨j + 1, s, by omega, by omega, by go_num, New.trans NQ.out (by repeat (first | with_reducible exact New.refl _ | with_reducible assumption | refine New.drewN ?_ _ | refine New.drew ?_ | refine New.alloc ?_ _ | refine New.setCell ?_ (by first | omega | (simp; omega) | (simp; done)) _ | (refine New.trans ?_ (by assumption)))), ?_⟩
                        rw [GI.out, if_neg hx]
                        exact ownsRow_new RO.out (by repeat (first | with_reducible exact New.refl _ | with_reducible assumption | refine New.drewN ?_ _ | refine New.drew ?_ | refine New.alloc ?_ _ | refine New.setCell ?_ (by first | omega | (simp; omega) | (simp; done)) _ | (refine New.trans ?_ (by assumption))))
                      case measure => simp [intOf]; omega
                  · obtain rfl : j = k := by omega
                    obtain ⟨oa, oc, e1, o1⟩ := Own.of_row RO.out
                    subst e1
                    have O1 := Lib.hid o1; clear o1
                    go_wp2_with (at_builtin; go_loud (refine wpList_append_lies _ (by rfl) (.tmp 94) (.tmp 96) 23 (by rfl) w4.heap.size 43 i1 (.slice none 0 0) 1 24 Try.underlying23 hi1 hy0 hy1 hy2 rfl (by decide) _ q _ (by rfl) (((GR.out.new NQ.out).new (by repeat (first | with_reducible exact New.refl _ | with_reducible assumption | refine New.drewN ?_ _ | refine New.drew ?_ | refine New.alloc ?_ _ | refine New.setCell ?_ (by first | omega | (simp; omega) | (simp; done)) _ | (refine New.trans ?_ (by assumption))))).row) _ _ _ [.slice oa s oc] (by rfl) (by rfl) (World.news_of_block (cs := #[.slice oa s oc]) (t := 43) (fr := (0, 0)) (heap_alloc_at (by simp))) (by simp [Value.oneCell']) (by omega) (by unfold maxLen; omega) (by omega) (by simp; omega) _ rfl ?_; intro g cap w6 ho hg hb' hlt'; have R2 := Lib.hid (GrowSS.snoc GR.out (by omega) NQ.out O1.out (by repeat (first | with_reducible exact New.refl _ | with_reducible assumption | refine New.drewN ?_ _ | refine New.drew ?_ | refine New.alloc ?_ _ | refine New.setCell ?_ (by first | omega | (simp; omega) | (simp; done)) _ | (refine New.trans ?_ (by assumption)))) ho hg hb'); have N6 := Lib.hid (New.grown (w0 := w4) ((NX.out.trans NQ.out).trans (by repeat (first | with_reducible exact New.refl _ | with_reducible assumption | refine New.drewN ?_ _ | refine New.drew ?_ | refine New.alloc ?_ _ | refine New.setCell ?_ (by first | omega | (simp; omega) | (simp; done)) _ | (refine New.trans ?_ (by assumption))))) ((GR.out.new NQ.out).new (by repeat (first | with_reducible exact New.refl _ | with_reducible assumption | refine New.drewN ?_ _ | refine New.drew ?_ | refine New.alloc ?_ _ | refine New.setCell ?_ (by first | omega | (simp; omega) | (simp; done)) _ | (refine New.trans ?_ (by assumption))))).row (Nat.le_refl _) hg); clear ho hg hb' hlt'))
                    go_roundw
                    case rel =>
                      refine ⟨p + 1, q + 1, fun z => if z = q then (oa, s, oc) else hd z, by omega, by omega, by go_num, ?_, N6.out⟩
                      rw [GS.out, if_pos fk]
                      exact R2.out
                    case measure => simp [intOf]; omega
              · have fkI : ¬ ((f p : Nat) : Int) = (p : Int) := by omega
                go_wp2
                go_roundw
                case rel =>
                  refine ⟨p + 1, q, hd, by omega, by omega, by go_num, ?_, NX.out⟩
                  rw [GS.out, if_neg fk]
                  exact GR.out
                case measure => simp [intOf]; omega
            · obtain rfl : p = k := by omega
              go_wp2
              obtain ⟨oa, oc, e1, o1⟩ := GR.out.done
              subst e1
              go_ret
              exact ⟨_, _, _, rfl, o1.mono NW.out.size (Nat.le_refl _), NW.out.trans NX.out⟩
end Go.Proofs.Ytlhpkpfnaepgbaa
