/- A plan with one move more; a place more. -/
import Derived.Test.YtilepckgcgdjgaaSearch
namespace Go.Proofs.Ytilepckgcgdjgaa
open Go.RowKit Go.Maps

theorem ownsRow_low {w : World} {b1 b2 : Nat} {e : TypeId} {size n : Nat} {v : Value} {xs : List Value} (h : w.ownsRow b1 e size v n xs) (hb : b2 ≤ b1) : w.ownsRow b2 e size v n xs := by
  obtain ⟨hl, h⟩ := h
  refine ⟨hl, ?_⟩
  rcases h with h | ⟨g, cap, cur, h1, h2, h3⟩
  · exact .inl h
  · exact .inr ⟨g, cap, cur, h1, by omega, h3⟩
theorem New.first0 {w2 w3 : World} (hg : w2.grownBy w3 none) : New w2 w3 := ⟨hg.os, hg.tape, hg.output, hg.size, fun k hk => hg.block k hk (by simp)⟩
theorem own_cell {w : World} {base : Nat} {ps : List (Int × Int)} {g n cap : Nat} (h : w.ownsRow base 77 2 (.slice (some ⟨g, 0, none⟩) n cap) ps.length (flat ps)) : n = ps.length ∧ n ≤ cap ∧ cap ≤ maxLen ∧ ∀ b, some (⟨g, 0, none⟩ : Addr) = some b → ∀ j u, (flat ps)[j]? = some u → w.cell? (b.add j) = some u := by
  obtain ⟨hl, h⟩ := h
  rcases h with ⟨e, _⟩ | ⟨g', cap', cur, e, _, hh, hc, hm, hs, ht⟩
  · cases e
  · cases e
    refine ⟨rfl, hc, hm, fun b hb j u hu => ?_⟩
    cases hb
    rw [show (⟨g, 0, none⟩ : Addr).add j = ⟨g, 0 + j, none⟩ from Addr.add_mid .., cell_of_row w g _ cur _ (0, 0) hh]
    rw [← ht] at hu
    have hj : j < (cur.toList.take (ps.length * 2)).length := (List.getElem?_eq_some_iff.1 hu).1
    rw [List.getElem?_take, if_pos (by rw [List.length_take] at hj; omega)] at hu
    simpa using hu

set_option maxRecDepth 100000 in
theorem longer_any (w : World) (base : Nat) (ps : List (Int × Int)) (v : Value) (f t : Int) (h : w.ownsRow base 77 2 v ps.length (flat ps)) (hn : ps.length ≤ 5000) :
    Calls Try.prog 80 #[v, .agg #[.int .i64 f, .int .i64 t]] w fun e w' => ∃ v', e = .returned v' ∧ w'.ownsRow w.heap.size 77 2 v' (ps.length + 1) (flat (ps ++ [(f, t)])) ∧ New w w' := by
  obtain ⟨i0, hi, hz0, hz1, hz2⟩ := info_parts Try.infoMove
  have HH := Lib.hid h
  have FL := Lib.hid (flat_length ps)
  have FA := Lib.hid (show flat (ps ++ [(f, t)]) = flat ps ++ [.int .i64 f, .int .i64 t] from by rw [flat_append]; rfl)
  rcases h.2 with ⟨rfl, h0⟩ | ⟨g, cap, cur, rfl, _, hh, hc, hm, _, _⟩
  · obtain rfl : ps = [] := List.eq_nil_of_length_eq_zero h0
    clear h h0
    go_enter Try.func80, Try.ntmps80
    go_wp2
    obtain ⟨v1, hv1⟩ : ∃ v, v = w.alloc (.cells #[.int .i64 f, .int .i64 t] 77) := ⟨_, rfl⟩
    rw [← hv1]
    have nv : New w v1 := by rw [hv1]; exact (by repeat (first | with_reducible exact New.refl _ | with_reducible assumption | refine New.drewN ?_ _ | refine New.drew ?_ | refine New.alloc ?_ _ | refine New.setCell ?_ (by first | omega | (simp; omega) | (simp; done)) _ | (refine New.trans ?_ (by assumption))))
    have b0 : v1.cell? ⟨w.heap.size, 0, none⟩ = some (.int .i64 f) := by rw [hv1]; simp [go_sem]
    have b1 : v1.cell? ⟨w.heap.size, 1, none⟩ = some (.int .i64 t) := by rw [hv1]; simp [go_sem]
    have zz : w.heap.size ≤ v1.heap.size := nv.size
    have NV := Lib.hid nv; clear nv hv1
    go_region_law (refine step_append_lies _ (by rfl) (.tmp 10) (.tmp 12) 43 (by rfl) w.heap.size 77 i0 _ 2 16 Try.underlying43 hi hz0 hz1 hz2 rfl (by decide) (.slice none 0 0) 0 [] (by rfl) (World.ownsRow_nil _ _ _ _) _ _ _ [.int .i64 f, .int .i64 t] (by rfl) (by rfl) (World.news_of_block (cs := #[.int .i64 f, .int .i64 t]) (t := 77) (fr := (0, 0)) (heap_alloc_new _ _)) (by simp [Value.oneCell']) (by omega) (by unfold maxLen; omega) (by omega) (by simp; omega) _ rfl ?_; intro g cap w' ho hg hb' hlt')
    all_goals go_wp2
    all_goals go_ret
    all_goals exact ⟨_, rfl, ho, (New.grown (w := (v1.alloc (.cells #[.int .i64 f, .int .i64 t] 77)).drew) (base := w.heap.size) (by repeat (first | with_reducible exact New.refl _ | with_reducible assumption | refine New.drewN ?_ _ | refine New.drew ?_ | refine New.alloc ?_ _ | refine New.setCell ?_ (by first | omega | (simp; omega) | (simp; done)) _ | (refine New.trans ?_ (by assumption)))) (World.ownsRow_nil _ w.heap.size 77 2) (Nat.le_refl _) hg : New w w')⟩
  · obtain ⟨e0, _, hm', hcell⟩ := own_cell HH.out
    clear h hh
    obtain ⟨n, hnn⟩ : ∃ n, n = ps.length := ⟨_, rfl⟩
    have hfl : (flat ps).length = n * 2 := by rw [FL.out, hnn]
    have hcell2 : ∀ j u, (flat ps)[j]? = some u → w.cell? ⟨g, j, none⟩ = some u := fun j u hu => by
      have q := hcell _ rfl j u hu
      rw [show (⟨g, 0, none⟩ : Addr).add j = ⟨g, 0 + j, none⟩ from Addr.add_mid .., Nat.zero_add] at q
      exact q
    rw [← hnn]
    have n5 : n ≤ 5000 := by omega
    have ncap : n ≤ cap := by omega
    have m9 : cap ≤ 9223372036854775807 := by unfold maxLen at hm'; omega
    have HC := Lib.hid hcell2
    clear hnn hn hcell hcell2 hc e0 hm hm'
    have FLN := Lib.hid hfl; clear hfl FL HH
    go_enter Try.func80, Try.ntmps80
    go_wp2
    obtain ⟨v1, hv1⟩ : ∃ v, v = w.alloc (.cells #[.int .i64 f, .int .i64 t] 77) := ⟨_, rfl⟩
    rw [← hv1]
    have nv : New w v1 := by rw [hv1]; exact (by repeat (first | with_reducible exact New.refl _ | with_reducible assumption | refine New.drewN ?_ _ | refine New.drew ?_ | refine New.alloc ?_ _ | refine New.setCell ?_ (by first | omega | (simp; omega) | (simp; done)) _ | (refine New.trans ?_ (by assumption))))
    have b0 : v1.cell? ⟨w.heap.size, 0, none⟩ = some (.int .i64 f) := by rw [hv1]; simp [go_sem]
    have b1 : v1.cell? ⟨w.heap.size, 1, none⟩ = some (.int .i64 t) := by rw [hv1]; simp [go_sem]
    have zz : w.heap.size ≤ v1.heap.size := nv.size
    have NV := Lib.hid nv; clear nv hv1
    have nI : (n : Int) ≤ (cap : Int) := by omega
    have HC1 := Lib.hid (show ∀ j u, (flat ps)[j]? = some u → v1.cell? ⟨g, j, none⟩ = some u from fun j u hu => NV.out.cell (HC.out j u hu))
    go_region_law (refine step_append_grows (by rfl) (.tmp 10) (.tmp 12) 43 (by rfl) 77 i0 _ 2 16 Try.underlying43 hi hz0 hz1 hz2 rfl (by decide) (some ⟨g, 0, none⟩) n n (flat ps) (by first | rfl | simp [Act.eval]) (fun h => by cases h) FLN.out (fun b hb j u hu => by cases hb; rw [show (⟨g, 0, none⟩ : Addr).add j = ⟨g, 0 + j, none⟩ from Addr.add_mid .., Nat.zero_add]; exact World.cell_kept (HC1.out j u hu)) _ 1 _ [.int .i64 f, .int .i64 t] (by rfl) (by rfl) (World.news_of_block (cs := #[.int .i64 f, .int .i64 t]) (t := 77) (fr := (0, 0)) (heap_alloc_new _ _)) (by simp [Value.oneCell']) (by omega) (by unfold maxLen; omega) (by omega) ?_; intro v' w' ho hg)
    all_goals go_wp2
    all_goals go_ret
    all_goals exact ⟨_, rfl, by rw [FA.out]; exact ownsRow_low ho (by simp; omega), New.trans (b := (v1.alloc (.cells #[.int .i64 f, .int .i64 t] 77)).drew) (by repeat (first | with_reducible exact New.refl _ | with_reducible assumption | refine New.drewN ?_ _ | refine New.drew ?_ | refine New.alloc ?_ _ | refine New.setCell ?_ (by first | omega | (simp; omega) | (simp; done)) _ | (refine New.trans ?_ (by assumption)))) (New.first0 hg)⟩
/-- What adding a place comes to. -/
def AddRet (kf : List Int → Lit) (w0 w : World) (B base mb : Nat) (sv : Value) (L : List Node) (vp vl : Value) (lay : List Int) (P St : Nat → Value) (x : Node) (p : Value) (e : Ending) (w' : World) : Prop :=
  e = .returned (.int .i64 (L.length : Int)) ∧ ∃ g cap, Srch kf w0 w' B base mb sv (L ++ [x]) (.slice (some ⟨g, 0, none⟩) (L.length + 1) cap) vl lay (upto P L.length p) (upto St L.length nilS) ∧ ∀ us, Keeps w w' B ([vp, vl, blkV mb] ++ us) ([.slice (some ⟨g, 0, none⟩) (L.length + 1) cap, vl, blkV mb] ++ us)

theorem Srch.placed {kf : List Int → Lit} {w0 w2 wA w' : World} {B base mb g cap N : Nat} {sv : Value} {L : List Node} {vp vl p : Value} {lay : List Int} {P St : Nat → Value} {x : Node} {D : DataW Unit} (br : BRows B base w2 [q1 vp L P St, q2 vl lay]) (nw : New w0 w2)
    (lo : w0.heap.size ≤ B ∧ w0.heap.size ≤ base ∧ w0.heap.size ≤ mb) (om : w2.ownsMap Try.prog 67 (plainElem Try.prog 3) mb (L.length + 1) D) (nu : Nums kf D (L ++ [x])) (fr : Far B [vp, vl] mb)
    (c0 : w2.cell? ⟨B, 0, none⟩ = some sv) (c3 : w2.cell? ⟨B, 3, none⟩ = some (.map (some mb))) (hbl : base ≤ w2.heap.size) (kA : New w2 wA)
    (ho : w'.ownsRow base 70 7 (.slice (some ⟨g, 0, none⟩) (N + 1) cap) (N + 1) (flat7 (hA L) P St L.length ++ [.int .i64 (x.h[0]?.getD 0), .int .i64 (x.h[1]?.getD 0), .int .i64 (x.h[2]?.getD 0), .int .i64 (x.h[3]?.getD 0), .int .i64 (x.h[4]?.getD 0), p, .slice none 0 0]))
    (hg : wA.grownBy w' vp.ownBlock) (hb : vp.ownBlock = some g ∨ g = wA.heap.size) (hN : N = L.length) :
    Srch kf w0 (w'.setCell ⟨B, 1, none⟩ (.slice (some ⟨g, 0, none⟩) (N + 1) cap)) B base mb sv (L ++ [x]) (.slice (some ⟨g, 0, none⟩) (L.length + 1) cap) vl lay (upto P L.length p) (upto St L.length nilS) ∧
      ∀ us, Keeps w2 (w'.setCell ⟨B, 1, none⟩ (.slice (some ⟨g, 0, none⟩) (N + 1) cap)) B ([vp, vl, blkV mb] ++ us) ([.slice (some ⟨g, 0, none⟩) (L.length + 1) cap, vl, blkV mb] ++ us) := by
  subst hN
  have hl : (L ++ [x]).length = L.length + 1 := by simp
  have gr := br.grown (pre := []) (r := q1 vp L P St) (post := [q2 vl lay]) kA ho hg hb nw lo.1 lo.2.1
  have e1 : (q1 vp L P St).as (.slice (some ⟨g, 0, none⟩) (L.length + 1) cap) (L.length + 1) (flat7 (hA L) P St L.length ++ [.int .i64 (x.h[0]?.getD 0), .int .i64 (x.h[1]?.getD 0), .int .i64 (x.h[2]?.getD 0), .int .i64 (x.h[3]?.getD 0), .int .i64 (x.h[4]?.getD 0), p, .slice none 0 0]) =
      q1 (.slice (some ⟨g, 0, none⟩) (L.length + 1) cap) (L ++ [x]) (upto P L.length p) (upto St L.length nilS) := by
    unfold BRow.as q1
    rw [← flat7_more, hl]
    rfl
  have bx := gr.1
  rw [show ([] ++ (q1 vp L P St).as (.slice (some ⟨g, 0, none⟩) (L.length + 1) cap) (L.length + 1) (flat7 (hA L) P St L.length ++ [.int .i64 (x.h[0]?.getD 0), .int .i64 (x.h[1]?.getD 0), .int .i64 (x.h[2]?.getD 0), .int .i64 (x.h[3]?.getD 0), .int .i64 (x.h[4]?.getD 0), p, .slice none 0 0]) :: [q2 vl lay]) = [q1 (.slice (some ⟨g, 0, none⟩) (L.length + 1) cap) (L ++ [x]) (upto P L.length p) (upto St L.length nilS), q2 vl lay] from by rw [e1]; rfl] at bx
  have hnb : some B ≠ vp.ownBlock := fun e => br.nb (q1 vp L P St) (by simp) e.symm
  have kp : ∀ us, Keeps w2 (w'.setCell ⟨B, 1, none⟩ (.slice (some ⟨g, 0, none⟩) (L.length + 1) cap)) B ([vp, vl, blkV mb] ++ us) ([.slice (some ⟨g, 0, none⟩) (L.length + 1) cap, vl, blkV mb] ++ us) := fun us =>
    (Keeps.of_new kA).trans (Keeps.grow (pre := []) (post := [vl, blkV mb] ++ us) hg rfl hb)
  have mlt := ownsMap_low om
  have hmb : some mb ≠ vp.ownBlock := fun e => fr.2 vp (by simp) e.symm
  have zA := kA.size
  refine ⟨⟨gr.2.2, lo, ?_, ?_, bx, ⟨D, ?_, nu⟩, ?_, ?_⟩, kp⟩
  · rw [set_other (fun e => by have q := congrArg Addr.off e; simp at q)]
    exact hg.cell (kA.cell c0) hnb
  · rw [set_other (fun e => by have q := congrArg Addr.off e; simp at q)]
    exact hg.cell (kA.cell c3) hnb
  · rw [hl]
    refine ownsMap_blk om ?_
    rw [Below.heap_setCell _ _ _ _ (fun e => fr.1 (by simpa using e))]
    exact (hg.block mb (by omega) hmb).trans (kA.block mb mlt)
  · exact ((show Keeps w2 (w'.setCell ⟨B, 1, none⟩ (.slice (some ⟨g, 0, none⟩) (L.length + 1) cap)) B [vp, vl] [.slice (some ⟨g, 0, none⟩) (L.length + 1) cap, vl] from (Keeps.of_new kA).trans (Keeps.grow (pre := []) (post := [vl]) hg rfl hb)).2 mb mlt fr).2
  · have := hg.size
    show base ≤ (w'.setCell _ _).heap.size
    simp [World.setCell]
    omega

set_option maxRecDepth 100000 in
set_option maxHeartbeats 4000000 in
theorem add_any (kf : List Int → Lit) (KF : KeyH kf) (w0 w : World) (B base mb : Nat) (sv : Value) (S H0 : List Int) (L : List Node) (vp vl : Value) (lay : List Int) (P St : Nat → Value) (x : Node) (po : Option Addr) (pn pc : Nat)
    (hs : Srch kf w0 w B base mb sv L vp vl lay P St) (hf : L = [] ∨ Found S H0 L) (hg : Good S x.h) (hn : nHas L x.h = false) (hb : L.length ≤ 5000) :
    Calls Try.prog 55 #[.pointer (some ⟨B, 0, none⟩), holdV x.h, .slice po pn pc] w (AddRet kf w0 w B base mb sv L vp vl lay P St x (.slice po pn pc)) := by
  obtain ⟨D, om, nu⟩ := hs.map
  have hne : ∀ i, i < L.length → kf (L[i]?.getD dN).h ≠ kf x.h := fun i hi e => by
    rcases hf with rfl | hf
    · simp at hi
    · rw [nHas_false] at hn
      exact hn i hi (kfH_inj KF (hf.good i hi) hg e)
  have HK := Lib.hid (KF x.h (good_five hg))
  have HS := Lib.hid hs
  have OM := Lib.hid om
  have NU := Lib.hid nu
  have NE := Lib.hid hne
  obtain ⟨N, hN⟩ : ∃ N, N = L.length := ⟨_, rfl⟩
  have c1 : w.cell? ⟨B, 1, none⟩ = some vp := hs.box.cell (q1 vp L P St) (by simp)
  have c3 := hs.c3
  have hown := hs.box.own (q1 vp L P St) (by simp)
  clear hs om nu hne hn hf
  obtain ⟨ao, cap0, hv⟩ : ∃ ao cap0, vp = .slice ao N cap0 := by
    obtain ⟨_, h⟩ := hown
    rcases h with ⟨e, e0⟩ | ⟨g, cap, cur, e, _⟩
    · exact ⟨none, 0, by have e' : vp = .slice none 0 0 := e; have e1 : L.length = 0 := e0; rw [e', hN, e1]⟩
    · exact ⟨_, cap, by have e' : vp = .slice (some ⟨g, 0, none⟩) L.length cap := e; rw [e', hN]⟩
  subst hv
  clear hown
  rw [← hN] at hb
  have HN := Lib.hid hN; clear hN
  go_enter Try.func55, Try.ntmps55
  go_upto_region 1 with fail
  obtain ⟨v1, hv1⟩ : ∃ v, v = w.alloc (.cells #[.int .i64 (x.h[0]?.getD 0), .int .i64 (x.h[1]?.getD 0), .int .i64 (x.h[2]?.getD 0), .int .i64 (x.h[3]?.getD 0), .int .i64 (x.h[4]?.getD 0)] 67) := ⟨_, rfl⟩
  rw [← hv1]
  have nv : New w v1 := by rw [hv1]; exact (by repeat (first | with_reducible exact New.refl _ | with_reducible assumption | refine New.drewN ?_ _ | refine New.drew ?_ | refine New.alloc ?_ _ | refine New.setCell ?_ (by first | omega | (simp; omega) | (simp; done)) _ | (refine New.trans ?_ (by assumption))))
  have b5 : Box5 v1 w.heap.size x.h := by rw [hv1]; exact Box5.made w x.h _
  have z1 : v1.heap.size = w.heap.size + 1 := by rw [hv1]; simp
  replace c1 := nv.cell c1
  replace c3 := nv.cell c3
  have S1 := Lib.hid (HS.out.newer nv)
  have O1 := Lib.hid (ownsMap_blk OM.out (nv.block _ (ownsMap_low OM.out)))
  have KP1 := Lib.hid (show ∀ vs, Keeps w v1 B vs vs from fun vs => Keeps.of_new nv)
  have BX := Lib.hid b5
  have mlt : mb < w.heap.size := ownsMap_low OM.out
  have Blt : B < w.heap.size := HS.out.box.lt (r := q1 (.slice ao N cap0) L P St) (by simp)
  have Z1 := Lib.hid z1
  clear nv hv1 b5 z1
  obtain ⟨e0, e1, e2, e3, e4⟩ := BX.out.five
  go_upto_region 2 with fail
  go_still_tail 6, (by kernel_rfl)
  change wpList _ _ _ _ _ v1.drew
  go_upto_region 3 with (at_mapUpdate; refine wpList_mapUpdate_own _ rfl _ _ _ 58 rfl 67 3 holdLaw Try.underlying58 (plainElem Try.prog 3) mb L.length D rfl (ownsMap_blk O1.out rfl) (by have := HN.out; unfold maxLen; omega) _ _ (kf x.h) rfl rfl HK.out _ [] (plainElem_int Try.underlying3 (WalkArith.wf_i64 (by omega))) ?_; intro w2 ho2 hg2; go_frame)
  have ch2 : Chg (fun b => (blkV mb).ownBlock = some b) v1 w2 := (Chg.of_new (New.refl _).drew).trans ⟨hg2.os, hg2.tape, hg2.output, hg2.size, fun i hi hp => hg2.block i hi (fun e => hp (by cases e; rfl))⟩
  have mB : mb ≠ B := S1.out.far.1
  have e0' := ch2.cell e0 (by simp [blkV, Value.ownBlock]; omega)
  have e1' := ch2.cell e1 (by simp [blkV, Value.ownBlock]; omega)
  have e2' := ch2.cell e2 (by simp [blkV, Value.ownBlock]; omega)
  have e3' := ch2.cell e3 (by simp [blkV, Value.ownBlock]; omega)
  have e4' := ch2.cell e4 (by simp [blkV, Value.ownBlock]; omega)
  have c1' := ch2.cell c1 (by simp [blkV, Value.ownBlock]; omega)
  have c3' := ch2.cell c3 (by simp [blkV, Value.ownBlock]; omega)
  have c0' := ch2.cell S1.out.c0 (by simp [blkV, Value.ownBlock]; omega)
  have BR2 := Lib.hid (S1.out.box.chg ch2 (by simp [blkV, Value.ownBlock]; omega) (fun r hr g e e2 => by
    simp [blkV, Value.ownBlock] at e2
    subst e2
    simp only [List.mem_cons, List.not_mem_nil, or_false] at hr
    rcases hr with rfl | rfl
    · exact S1.out.far.2 (.slice ao N cap0) (by simp) e
    · exact S1.out.far.2 vl (by simp) e))
  have NW2 := Lib.hid (show New w0 w2 from Chg.new S1.out.new ch2 (fun b e => by simp [blkV, Value.ownBlock] at e; have := S1.out.lo; omega))
  have KP2 := Lib.hid (show ∀ us, Keeps w w2 B ([.slice ao N cap0, vl, blkV mb] ++ us) ([.slice ao N cap0, vl, blkV mb] ++ us) from fun us => (KP1.out _).trans (Keeps.of_chg (v := blkV mb) (by simp) ch2))
  have OM2 := Lib.hid ho2
  have NU2 := Lib.hid (show Nums kf (D.put (kf x.h) (.lit (.int .i64 (N : Int)))) (L ++ [x]) from by rw [HN.out]; exact NU.out.put (OM.out.tidy holdLaw) (holdLaw.key HK.out) NE.out)
  have z2 := ch2.size
  have Z2 := Lib.hid (show mb < w2.heap.size by have := Z1.out; omega)
  have FR := Lib.hid S1.out.far
  have LO := Lib.hid (And.intro S1.out.lo S1.out.blo)
  clear e0 e1 e2 e3 e4 c1 c3 S1 O1 BX ho2 hg2 ch2 KP1 OM NU NE HS
  obtain ⟨i1, hj1, hy0, hy1, hy2⟩ := info_parts Try.infoPlace
  have OW := Lib.hid ((show ∀ n, n = L.length → w2.ownsRow base 70 7 (.slice ao N cap0) n (flat7 (hA L) P St L.length) from fun n e => by subst e; exact BR2.out.own (q1 (.slice ao N cap0) L P St) (by simp)) N HN.out)
  have zB2 : B < w2.heap.size := BR2.out.lt (r := q1 (.slice ao N cap0) L P St) (by simp)
  have zbase : base ≤ w2.heap.size := by have := LO.out.2; omega
  go_cut [7] (fun p' W => p' = .int .i64 (N : Int) ∧ ∃ g cap, Srch kf w0 W B base mb sv (L ++ [x]) (.slice (some ⟨g, 0, none⟩) (L.length + 1) cap) vl lay (upto P L.length (.slice po pn pc)) (upto St L.length nilS) ∧ ∀ us, Keeps w W B ([.slice ao N cap0, vl, blkV mb] ++ us) ([.slice (some ⟨g, 0, none⟩) (L.length + 1) cap, vl, blkV mb] ++ us))
  case first =>
    go_region_law (refine step_append_lies _ (by rfl) (.tmp 23) (.tmp 27) 57 (by rfl) base 70 i1 _ 7 88 Try.underlying57 hj1 hy0 hy1 hy2 rfl (by decide) (.slice ao N cap0) N _ (by rfl) (ownsRow_new OW.out (by repeat (first | with_reducible exact New.refl _ | with_reducible assumption | refine New.drewN ?_ _ | refine New.drew ?_ | refine New.alloc ?_ _ | refine New.setCell ?_ (by first | omega | (simp; omega) | (simp; done)) _ | (refine New.trans ?_ (by assumption))))) _ _ _ [.int .i64 (x.h[0]?.getD 0), .int .i64 (x.h[1]?.getD 0), .int .i64 (x.h[2]?.getD 0), .int .i64 (x.h[3]?.getD 0), .int .i64 (x.h[4]?.getD 0), .slice po pn pc, .slice none 0 0] (by rfl) (by rfl) (World.news_of_block (cs := #[.int .i64 (x.h[0]?.getD 0), .int .i64 (x.h[1]?.getD 0), .int .i64 (x.h[2]?.getD 0), .int .i64 (x.h[3]?.getD 0), .int .i64 (x.h[4]?.getD 0), .slice po pn pc, .slice none 0 0]) (t := 70) (fr := (0, 0)) (heap_alloc_new _ _)) (by simp [Value.oneCell']) (by omega) (by unfold maxLen; omega) (by omega) (by simp; omega) _ rfl ?_; intro g cap w' ho hg hb' hlt'; have kk := BRows.store (r := q1 (.slice ao N cap0) L P St) (BR2.out.new (by repeat (first | with_reducible exact New.refl _ | with_reducible assumption | refine New.drewN ?_ _ | refine New.drew ?_ | refine New.alloc ?_ _ | refine New.setCell ?_ (by first | omega | (simp; omega) | (simp; done)) _ | (refine New.trans ?_ (by assumption))))) (by simp) hg; obtain ⟨s0, s1⟩ := kk; replace s0 : w'.cell? ⟨B, 1, none⟩ = some (.slice ao N cap0) := s0; replace s1 : w'.frozen? ⟨B, 1, none⟩ = false := s1)
    all_goals (go_wp2_with fail; go_meet)
    all_goals
      obtain ⟨sr, kp⟩ := Srch.placed (x := x) BR2.out NW2.out LO.out.1 OM2.out NU2.out FR.out c0' c3' zbase (by repeat (first | with_reducible exact New.refl _ | with_reducible assumption | refine New.drewN ?_ _ | refine New.drew ?_ | refine New.alloc ?_ _ | refine New.setCell ?_ (by first | omega | (simp; omega) | (simp; done)) _ | (refine New.trans ?_ (by assumption)))) ho hg hb' HN.out
      exact ⟨rfl, g, cap, sr, fun us => (KP2.out us).trans (kp us)⟩
  case rest =>
    obtain ⟨rfl, g, cap, hsr, hkp⟩ := hcut
    have SR := Lib.hid hsr
    have KP := Lib.hid hkp
    clear hsr hkp c0' c1' c3' e0' e1' e2' e3' e4'
    go_wp2
    go_ret
    exact ⟨by rw [HN.out]; rfl, g, cap, SR.out, KP.out⟩
end Go.Proofs.Ytilepckgcgdjgaa
