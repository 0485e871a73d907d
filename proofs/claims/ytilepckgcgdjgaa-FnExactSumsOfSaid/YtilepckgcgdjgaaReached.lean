/- All that vessels reach: the walk of the program's search. -/
import Derived.Test.YtilepckgcgdjgaaGoOn
import Derived.Test.YtilepckgcgdjgaaLayers
import Derived.Test.YtilepckgcgdjgaaImpl3
import Derived.ScopeJumps
namespace Go.Proofs.Ytilepckgcgdjgaa
open Go.RowKit Go.Maps

/-- What is found, by the values that lead to it. -/
structure FoundV (kf : List Int → Lit) (w0 w : World) (base mb : Nat) (L : List Node) (vp vl : Value) (lay : List Int) (P St : Nat → Value) : Prop where
  new : New w0 w
  lo : w0.heap.size ≤ base ∧ w0.heap.size ≤ mb
  places : w.ownsRow base 70 7 vp L.length (flat7 (hA L) P St L.length)
  layers : w.ownsRow base 3 1 vl lay.length (intsL lay)
  map : ∃ D : DataW Unit, w.ownsMap Try.prog 67 (plainElem Try.prog 3) mb L.length D ∧ Nums kf D L
  plans : ∀ k, k < L.length → w.ownsRow base 77 2 (P k) (wayN L k).length (flat (wayN L k))
  steps : ∀ k, k < L.length → ∃ ao m' cap', St k = Value.slice ao m' cap'
theorem FoundV.newer {kf : List Int → Lit} {w0 w w' : World} {base mb : Nat} {L : List Node} {vp vl : Value} {lay : List Int} {P St : Nat → Value} (h : FoundV kf w0 w base mb L vp vl lay P St) (k : New w w') : FoundV kf w0 w' base mb L vp vl lay P St := by
  obtain ⟨D, h1, h2⟩ := h.map
  exact ⟨h.new.trans k, h.lo, ownsRow_new h.places k, ownsRow_new h.layers k, ⟨D, ownsMap_blk h1 (k.block _ (ownsMap_low h1)), h2⟩, fun j hj => ownsRow_new (h.plans j hj) k, h.steps⟩
def noneS : Value := .agg #[.slice none 0 0, .slice none 0 0, .slice none 0 0, .map none]
def ReRet (kf : List Int → Lit) (w : World) (sv : Value) (S H : List Int) (cl : Bool) (most : Nat) (e : Ending) (w' : World) : Prop :=
  New w w' ∧ if goodB S H = true ∧ fewB S H cl most = true then ∃ base mb vp vl P St, e = .returned (.tuple #[.agg #[sv, vp, vl, .map (some mb)], .bool true]) ∧ FoundV kf w w' base mb (endN S H cl most) vp vl (layN (endN S H cl most)) P St
    else e = .returned (.tuple #[noneS, .bool false])
theorem res_reached {tmps : Array Value} {W : World} {R : Nat} {b : Bool} {x0 x1 x2 x3 : Value} (ht : tmps[6]?.getD undef = .pointer (some ⟨R, 0, none⟩)) (h7 : tmps[7]?.getD undef = .bool b)
    (c0 : W.cell? ⟨R, 0, none⟩ = some x0) (c1 : W.cell? ⟨R, 1, none⟩ = some x1) (c2 : W.cell? ⟨R, 2, none⟩ = some x2) (c3 : W.cell? ⟨R, 3, none⟩ = some x3) :
    (results Try.f36 tmps).run Try.prog W = .ok (.tuple #[.agg #[x0, x1, x2, x3], .bool b]) W := by
  simp [results, Try.results36, go_sem, ht, h7, c0, c1, c2, c3]
theorem Srch.start (kf : List Int → Lit) (w w1 : World) (sv : Value) (t : TypeId) (h : New w w1) :
    Srch kf w ((w1.alloc (.map #[] 0)).alloc (.cells #[sv, .slice none 0 0, .slice none 0 0, .map (some w1.heap.size)] t)) (w1.heap.size + 1) w.heap.size w1.heap.size sv [] nilS nilS [] (fun _ => nilS) (fun _ => nilS) := by
  have hz := h.size
  refine ⟨(h.alloc _).alloc _, by omega, by simp [go_sem], by simp [go_sem], ⟨fun r hr => ?_, fun r hr => ?_, fun r hr => ?_, fun r hr => ?_, ?_⟩, ⟨.map [], ?_, Nums.nil kf⟩, ⟨by omega, fun v hv => ?_⟩, by simp; omega⟩
  · simp only [List.mem_cons, List.not_mem_nil, or_false] at hr
    rcases hr with rfl | rfl <;> simp [go_sem, q1, q2, nilS]
  · simp only [List.mem_cons, List.not_mem_nil, or_false] at hr
    rcases hr with rfl | rfl <;> simp [go_sem, q1, q2]
  · simp only [List.mem_cons, List.not_mem_nil, or_false] at hr
    rcases hr with rfl | rfl
    · exact World.ownsRow_nil _ _ _ _
    · exact World.ownsRow_nil _ _ _ _
  · simp only [List.mem_cons, List.not_mem_nil, or_false] at hr
    rcases hr with rfl | rfl <;> simp [q1, q2, nilS, Value.ownBlock]
  · simp [q1, q2, nilS, Value.ownBlock]
  · have q := World.ownsMap_made w1 (P := Try.prog) 67 (plainElem (H := Unit) Try.prog 3)
    exact ownsMap_blk q (((New.refl _).alloc _).block _ (ownsMap_low q))
  · simp only [List.mem_cons, List.not_mem_nil, or_false] at hv
    rcases hv with rfl | rfl <;> simp [nilS, Value.ownBlock]

theorem jump_mono {l : Nat} {J J' : Act → World → Prop} {Q : Exit → Act → World → Prop} (h : ∀ a w, J a w → J' a w) : ∀ (e : Exit) (a : Act) (w : World), Exit.jump l J Q e a w → Exit.jump l J' Q e a w := fun e a w hj => by
  cases e with
  | goto l' => exact ⟨hj.1, h _ _ hj.2⟩
  | _ => exact hj
theorem wp_scope_jumps_once {P : Program} {c X : Code} {Q : Exit → Act → World → Prop} {a : Act} {w : World} (l : Nat) (J : Act → World → Prop) (μ : Act → World → Nat) (hf : findLabel c l = some (Code.skip.seq X))
    (pass : ∀ a w, J a w → X.wp P (Exit.jump l (fun a' w' => J a' w' ∧ μ a' w' < μ a w) Q) a w) (first : (∀ a w, J a w → X.wp P (Exit.jump l J Q) a w) → c.wp P (Exit.jump l J Q) a w) : (Code.scope c).wp P Q a w :=
  wp_scope_jumps l J μ hf (first fun a w h => Code.wp_mono (jump_mono fun _ _ h => h.1) (pass a w h)) fun a w h => wp_seq_k fun _ hK => wp_skip (hK _ _ (pass a w h))
theorem four_set {W : World} {R : Nat} {y0 y1 y2 y3 : Value} (x0 x1 x2 x3 : Value) (r0 : W.cell? ⟨R, 0, none⟩ = some y0) (r1 : W.cell? ⟨R, 1, none⟩ = some y1) (r2 : W.cell? ⟨R, 2, none⟩ = some y2) (r3 : W.cell? ⟨R, 3, none⟩ = some y3) :
    ((((W.setCell ⟨R, 0, none⟩ x0).setCell ⟨R, 1, none⟩ x1).setCell ⟨R, 2, none⟩ x2).setCell ⟨R, 3, none⟩ x3).cell? ⟨R, 0, none⟩ = some x0 ∧ ((((W.setCell ⟨R, 0, none⟩ x0).setCell ⟨R, 1, none⟩ x1).setCell ⟨R, 2, none⟩ x2).setCell ⟨R, 3, none⟩ x3).cell? ⟨R, 1, none⟩ = some x1 ∧
      ((((W.setCell ⟨R, 0, none⟩ x0).setCell ⟨R, 1, none⟩ x1).setCell ⟨R, 2, none⟩ x2).setCell ⟨R, 3, none⟩ x3).cell? ⟨R, 2, none⟩ = some x2 ∧ ((((W.setCell ⟨R, 0, none⟩ x0).setCell ⟨R, 1, none⟩ x1).setCell ⟨R, 2, none⟩ x2).setCell ⟨R, 3, none⟩ x3).cell? ⟨R, 3, none⟩ = some x3 ∧
      Chg (fun b => b = R) W ((((W.setCell ⟨R, 0, none⟩ x0).setCell ⟨R, 1, none⟩ x1).setCell ⟨R, 2, none⟩ x2).setCell ⟨R, 3, none⟩ x3) := by
  refine ⟨?_, ?_, ?_, ?_, ?_⟩
  · rw [set_other (by simp), set_other (by simp), set_other (by simp)]; exact set_same r0
  · rw [set_other (by simp), set_other (by simp)]; exact set_same (by rw [set_other (by simp)]; exact r1)
  · rw [set_other (by simp)]; exact set_same (by rw [set_other (by simp), set_other (by simp)]; exact r2)
  · exact set_same (by rw [set_other (by simp), set_other (by simp), set_other (by simp)]; exact r3)
  · exact (((Chg.setCell (p := ⟨R, 0, none⟩) _).trans (Chg.setCell (p := ⟨R, 1, none⟩) _)).trans (Chg.setCell (p := ⟨R, 2, none⟩) _)).trans (Chg.setCell (p := ⟨R, 3, none⟩) _)
theorem FoundV.chg {kf : List Int → Lit} {w0 w w' : World} {base mb R : Nat} {L : List Node} {vp vl : Value} {lay : List Int} {P St : Nat → Value} (h : FoundV kf w0 w base mb L vp vl lay P St) (k : Chg (fun b => b = R) w w') (h0 : w0.heap.size ≤ R) (h1 : R < base) (h2 : R < mb) : FoundV kf w0 w' base mb L vp vl lay P St := by
  obtain ⟨D, m1, m2⟩ := h.map
  have key : ∀ {e : TypeId} {size n : Nat} {v : Value} {xs : List Value}, w.ownsRow base e size v n xs → w'.ownsRow base e size v n xs := fun ho => ownsRow_block ho fun g e => k.block g (ho.lt g e).2 (by have := (ho.lt g e).1; omega)
  exact ⟨Chg.new h.new k (fun i hi => by omega), h.lo, key h.places, key h.layers, ⟨D, ownsMap_blk m1 (k.block _ (ownsMap_low m1) (by omega)), m2⟩, fun j hj => key (h.plans j hj), h.steps⟩
/-- A layer's number has been added. -/
theorem Srch.layered {kf : List Int → Lit} {w0 w wA w' : World} {B base mb g cap N : Nat} {sv : Value} {L : List Node} {vp vl : Value} {lay : List Int} {P St : Nat → Value} {z : Int} (h : Srch kf w0 w B base mb sv L vp vl lay P St) (kA : New w wA)
    (ho : w'.ownsRow base 3 1 (.slice (some ⟨g, 0, none⟩) (N + 1) cap) (N + 1) (intsL lay ++ [.int .i64 z])) (hg : wA.grownBy w' vl.ownBlock) (hb : vl.ownBlock = some g ∨ g = wA.heap.size) (hN : N = lay.length) :
    Srch kf w0 (w'.setCell ⟨B, 2, none⟩ (.slice (some ⟨g, 0, none⟩) (N + 1) cap)) B base mb sv L vp (.slice (some ⟨g, 0, none⟩) (N + 1) cap) (lay ++ [z]) P St ∧
      Keeps w (w'.setCell ⟨B, 2, none⟩ (.slice (some ⟨g, 0, none⟩) (N + 1) cap)) B [vp, vl, blkV mb] [vp, .slice (some ⟨g, 0, none⟩) (N + 1) cap, blkV mb] := by
  subst hN
  have br := h.box
  have gr := br.grown (pre := [q1 vp L P St]) (r := q2 vl lay) (post := []) kA ho hg hb h.new h.lo.1 h.lo.2.1
  have e1 : (q2 vl lay).as (.slice (some ⟨g, 0, none⟩) (lay.length + 1) cap) (lay.length + 1) (intsL lay ++ [.int .i64 z]) = q2 (.slice (some ⟨g, 0, none⟩) (lay.length + 1) cap) (lay ++ [z]) := by
    unfold BRow.as q2 intsL
    simp
  have bx := gr.1
  rw [e1] at bx
  have hnb : some B ≠ vl.ownBlock := fun e => br.nb (q2 vl lay) (by simp) e.symm
  obtain ⟨D, om, nu⟩ := h.map
  have mlt := ownsMap_low om
  have hmb : some mb ≠ vl.ownBlock := fun e => h.far.2 vl (by simp) e.symm
  have zA := kA.size
  have kp : Keeps w (w'.setCell ⟨B, 2, none⟩ (.slice (some ⟨g, 0, none⟩) (lay.length + 1) cap)) B [vp, vl, blkV mb] [vp, .slice (some ⟨g, 0, none⟩) (lay.length + 1) cap, blkV mb] :=
    (Keeps.of_new kA).trans (Keeps.grow (pre := [vp]) (post := [blkV mb]) hg rfl hb)
  refine ⟨⟨gr.2.2, h.lo, ?_, ?_, bx, ⟨D, ?_, nu⟩, ?_, ?_⟩, kp⟩
  · rw [set_other (fun e => by have q := congrArg Addr.off e; simp at q)]
    exact hg.cell (kA.cell h.c0) hnb
  · rw [set_other (fun e => by have q := congrArg Addr.off e; simp at q)]
    exact hg.cell (kA.cell h.c3) hnb
  · refine ownsMap_blk om ?_
    rw [Below.heap_setCell _ _ _ _ (fun e => h.far.1 (by simpa using e))]
    exact (hg.block mb (by omega) hmb).trans (kA.block mb mlt)
  · exact ((show Keeps w (w'.setCell ⟨B, 2, none⟩ (.slice (some ⟨g, 0, none⟩) (lay.length + 1) cap)) B [vp, vl] [vp, .slice (some ⟨g, 0, none⟩) (lay.length + 1) cap] from (Keeps.of_new kA).trans (Keeps.grow (pre := [vp]) (post := []) hg rfl hb)).2 mb mlt h.far).2
  · have := hg.size
    have := h.blo
    show base ≤ (w'.setCell _ _).heap.size
    simp [World.setCell]
    omega
theorem Srch.fresh {kf : List Int → Lit} {w0 w : World} {B base mb : Nat} {sv : Value} {L : List Node} {vp vl : Value} {lay : List Int} {P St : Nat → Value} (h : Srch kf w0 w B base mb sv L vp vl lay P St) {b : Nat} (hb : w.heap.size ≤ b) : Far B [vp, vl, blkV mb] b := by
  refine ⟨by have := h.box.lt (r := q1 vp L P St) (by simp); omega, fun v hv e2 => ?_⟩
  simp only [List.mem_cons, List.not_mem_nil, or_false] at hv
  rcases hv with rfl | rfl | rfl
  · have := (h.box.own (q1 v L P St) (by simp)).lt _ e2; omega
  · have := (h.box.own (q2 v lay) (by simp)).lt _ e2; omega
  · simp [Value.ownBlock, blkV] at e2
    obtain ⟨D, om, _⟩ := h.map
    have := ownsMap_low om
    omega
/-- The search in memory, between two places. -/
structure Sx (kf : List Int → Lit) (w1 W : World) (B base mb : Nat) (sv : Value) (S : List Int) (cl : Bool) (L : List Node) (k : Nat) (vp vl : Value) (lay : List Int) (P St : Nat → Value) (mo : Option Addr) (mn mc : Nat) : Prop where
  sr : Srch kf w1 W B base mb sv L vp vl lay P St
  pl : ∀ j, j < L.length → PlanAt W B base [vp, vl, blkV mb] (wayN L j) (P j)
  st : ∀ j, k ≤ j → j < L.length → St j = nilS
  mv : MovF W B [vp, vl, blkV mb] mo mn mc (allL S.length cl)
  sl : ∀ j, j < L.length → ∃ ao m' cap', St j = Value.slice ao m' cap'
theorem Sx.newer {kf : List Int → Lit} {w1 W W' : World} {B base mb : Nat} {sv : Value} {S : List Int} {cl : Bool} {L : List Node} {k : Nat} {vp vl : Value} {lay : List Int} {P St : Nat → Value} {mo : Option Addr} {mn mc : Nat} (h : Sx kf w1 W B base mb sv S cl L k vp vl lay P St mo mn mc) (n : New W W') : Sx kf w1 W' B base mb sv S cl L k vp vl lay P St mo mn mc :=
  ⟨h.sr.newer n, fun j hj => (h.pl j hj).keep (Keeps.of_new n), h.st, h.mv.keep (Keeps.of_new n), h.sl⟩
theorem Sx.found {kf : List Int → Lit} {w w1 W : World} {B base mb : Nat} {sv : Value} {S : List Int} {cl : Bool} {L : List Node} {k : Nat} {vp vl : Value} {lay : List Int} {P St : Nat → Value} {mo : Option Addr} {mn mc : Nat} (h : Sx kf w1 W B base mb sv S cl L k vp vl lay P St mo mn mc) (n : New w w1) : FoundV kf w W base mb L vp vl lay P St :=
  ⟨n.trans h.sr.new, by have := n.size; have := h.sr.lo; omega, h.sr.box.own (q1 vp L P St) (by simp), h.sr.box.own (q2 vl lay) (by simp), h.sr.map, fun j hj => (h.pl j hj).1, h.sl⟩

/-- Where the search stands at the head of a layer. -/
structure Atop (kf : List Int → Lit) (w w1 W : World) (B base mb : Nat) (aa : Option Addr) (n ca : Nat) (S H : List Int) (cl : Bool) (most F : Nat) (vp vl : Value) (lay : List Int) (P St : Nat → Value) (mo : Option Addr) (mn mc : Nat) : Prop where
  new : New w w1
  res : ∀ i, i < 4 → (∃ v, w1.cell? ⟨w.heap.size + 1, i, none⟩ = some v) ∧ w1.frozen? ⟨w.heap.size + 1, i, none⟩ = false
  sx : Sx kf w1 W B base mb (.slice aa n ca) S cl (seqN S H cl F) F vp vl lay P St mo mn mc
  lay : Lay (seqN S H cl F) F lay
  few : (seqN S H cl F).length ≤ most

set_option maxRecDepth 100000 in
set_option maxHeartbeats 8000000 in
theorem reachedFrom_any (kf : List Int → Lit) (KF : KeyH kf) (w : World) (aa ab : Option Addr) (n m ca cb : Nat) (S H : List Int) (cl : Bool) (most : Nat) (h1 : Ints w aa n ca S) (h2 : Ints w ab m cb H) (hm1 : 1 ≤ most) (hm2 : most ≤ 3000) :
    Calls Try.prog 36 #[.agg #[.slice aa n ca, .slice ab m cb], .bool cl, .int .i64 most] w (ReRet kf w (.slice aa n ca) S H cl most) := by
  have HA := Lib.hid h1; clear h1
  have HB := Lib.hid h2; clear h2
  by_cases hg : goodB S H = true
  · have hG := goodB_iff.1 hg
    have hn := HA.out.len
    have q5 : n ≤ 5 := by have := hG.1; omega
    have q1' : 1 ≤ n := by have := hG.1; omega
    have HN := Lib.hid hn; clear hn
    have HG := Lib.hid hG; clear hG
    have hmm := @run_makeMap Try.prog
    go_enter Try.func36, Try.ntmps36
    go_wp2
    refine wp_scope_jumps_once 0 (fun a' w' => ∃ (F B base mb : Nat) (mo : Option Addr) (mn mc : Nat) (w1 : World) (vp vl : Value) (lay : List Int) (P St : Nat → Value) (u4 u5 u7 u11 u12 u13 u14 u15 u16 u17 u18 u19 u20 u21 u22 u23 u24 u25 u26 u27 u28 u29 u30 u31 u32 u33 u34 u35 u36 u37 u38 u39 u40 u41 u42 u43 u44 u45 u46 u47 u48 u49 u50 u51 u52 u53 u54 u55 u56 u57 u58 : Value), a' = { tmps := #[.agg #[.slice aa n ca, .slice ab m cb], .bool cl, .int .i64 (most : Int), .pointer (some ⟨w.heap.size, 0, none⟩), u4, u5, .pointer (some ⟨w.heap.size + 1, 0, none⟩), u7, .pointer (some ⟨B, 0, none⟩), .slice mo mn mc, .int .i64 (F : Int), u11, u12, u13, u14, u15, u16, u17, u18, u19, u20, u21, u22, u23, u24, u25, u26, u27, u28, u29, u30, u31, u32, u33, u34, u35, u36, u37, u38, u39, u40, u41, u42, u43, u44, u45, u46, u47, u48, u49, u50, u51, u52, u53, u54, u55, u56, u57, u58], defers := [] } ∧ Atop kf w w1 w' B base mb aa n ca S H cl most F vp vl lay P St mo mn mc) (fun a' _ => most + 1 - (intOf (a'.tmps.getD 10 undef)).toNat) rfl ?_ ?_
    · rintro a' W ⟨F, B, base, mb, mo, mn, mc, w1, vp, vl, lay, P, St, u4, u5, u7, u11, u12, u13, u14, u15, u16, u17, u18, u19, u20, u21, u22, u23, u24, u25, u26, u27, u28, u29, u30, u31, u32, u33, u34, u35, u36, u37, u38, u39, u40, u41, u42, u43, u44, u45, u46, u47, u48, u49, u50, u51, u52, u53, u54, u55, u56, u57, u58, rfl, at'⟩
      have AT := Lib.hid at'; clear at' hmm
      have A1 := Lib.hid (HA.out.new AT.out.new)
      obtain ⟨L0, hL0⟩ : ∃ L0, L0 = seqN S H cl F := ⟨_, rfl⟩
      have LY := Lib.hid (show Lay L0 F lay from by rw [hL0]; exact AT.out.lay)
      have sx := AT.out.sx
      have few := AT.out.few
      rw [← hL0] at sx few
      have EL := Lib.hid hL0; clear hL0
      have FLT := LY.out.lt
      obtain ⟨gp, cp, hvp, c1, _, _, _⟩ := sx.sr.at LY.out.lt
      subst hvp
      obtain ⟨al, cpl, hvl⟩ := own_slice (sx.sr.box.own (q2 vl lay) (by simp))
      have hvl' : vl = .slice al lay.length cpl := hvl
      subst hvl'
      clear hvl
      have c2 : W.cell? ⟨B, 2, none⟩ = some (.slice al lay.length cpl) := sx.sr.box.cell (q2 (.slice al lay.length cpl) lay) (by simp)
      have SX := Lib.hid sx; clear sx
      obtain ⟨E, hE⟩ : ∃ E, E = L0.length := ⟨_, rfl⟩
      rw [← hE] at c1 few FLT
      have HE := Lib.hid hE; clear hE
      obtain ⟨d, hd⟩ : ∃ d, d = lay.length := ⟨_, rfl⟩
      have OWL := Lib.hid ((show ∀ n, n = lay.length → W.ownsRow base 3 1 (.slice al n cpl) n (intsL lay) from fun n e => by subst e; exact SX.out.sr.box.own (q2 (.slice al lay.length cpl) lay) (by simp)) d hd)
      rw [← hd] at c2
      have BS := Lib.hid ((show ∀ n, n = lay.length → ∀ wA w', New W wA → wA.grownBy w' (Value.slice al n cpl).ownBlock → w'.cell? ⟨B, 2, none⟩ = some (.slice al n cpl) ∧ w'.frozen? ⟨B, 2, none⟩ = false from fun n e wA w' k hg => by subst e; exact BRows.store (r := q2 (.slice al lay.length cpl) lay) (SX.out.sr.box.new k) (by simp) hg) d hd)
      have HD := Lib.hid hd
      have zB : B < W.heap.size := World.block_lt_of_cell? _ _ c1
      have hblo := SX.out.sr.blo
      have dF : d ≤ F := by
        rw [hd, ← LY.out.hi F (Nat.le_refl _) LY.out.lt]
        have q := (found_seq cl HG.out F).far_le F (by rw [← EL.out]; exact LY.out.lt)
        rw [← EL.out] at q
        exact q
      clear hd
      have wE : IntKind.i64.wrap ((E : Int) - (F : Int)) = (E : Int) - (F : Int) := IntWalk.i64_in _ (by omega)
      obtain ⟨i0, hi0, hz0, hz1, hz2⟩ := info_parts Try.infoInt
      go_upto_region 9 with (at_builtin; refine wpList_append_lies _ (by rfl) (.tmp 32) (.tmp 36) 22 (by rfl) base 3 i0 (.int .i64 0) 1 8 Try.underlying22 hi0 hz0 hz1 hz2 rfl (by decide) (.slice al d cpl) d _ (by rfl) (ownsRow_new OWL.out (by repeat (first | with_reducible exact New.refl _ | with_reducible assumption | refine New.drewN ?_ _ | refine New.drew ?_ | refine New.alloc ?_ _ | refine New.setCell ?_ (by first | omega | (simp; omega) | (simp; done)) _ | (refine New.trans ?_ (by assumption))))) _ _ _ [.int .i64 ((E : Int) - (F : Int))] (by rfl) (by rfl) (World.news_of_block (cs := #[.int .i64 ((E : Int) - (F : Int))]) (t := 3) (fr := (0, 0)) (heap_alloc_new _ _)) (by simp [Value.oneCell']) (by omega) (by unfold maxLen; omega) (by omega) (by simp; omega) _ rfl ?_; intro g2 cap2 w' ho hg hb' hlt'; have kk := BS.out _ _ (by repeat (first | with_reducible exact New.refl _ | with_reducible assumption | refine New.drewN ?_ _ | refine New.drew ?_ | refine New.alloc ?_ _ | refine New.setCell ?_ (by first | omega | (simp; omega) | (simp; done)) _ | (refine New.trans ?_ (by assumption)))) hg; obtain ⟨s0, s1⟩ := kk)
      obtain ⟨W2, hW2⟩ : ∃ v, v = w'.setCell ⟨B, 2, none⟩ (.slice (some ⟨g2, 0, none⟩) (d + 1) cap2) := ⟨_, rfl⟩
      rw [← hW2]
      have SXD := Lib.hid ((show ∀ n', n' = lay.length → Sx kf w1 W B base mb (.slice aa n ca) S cl L0 F (.slice (some ⟨gp, 0, none⟩) L0.length cp) (.slice al n' cpl) lay P St mo mn mc from fun n' e => by subst e; exact SX.out) d HD.out)
      have sl := Srch.layered (wA := W.alloc (.cells #[.int .i64 ((E : Int) - (F : Int))] 3)) SXD.out.sr (by repeat (first | with_reducible exact New.refl _ | with_reducible assumption | refine New.drewN ?_ _ | refine New.drew ?_ | refine New.alloc ?_ _ | refine New.setCell ?_ (by first | omega | (simp; omega) | (simp; done)) _ | (refine New.trans ?_ (by assumption)))) ho hg hb' HD.out
      rw [← hW2] at sl
      obtain ⟨s2, k2⟩ := sl
      obtain ⟨vl2, hvl2⟩ : ∃ v, v = (.slice (some ⟨g2, 0, none⟩) (d + 1) cap2 : Value) := ⟨_, rfl⟩
      rw [← hvl2] at s2 k2
      have VL2 := Lib.hid hvl2
      obtain ⟨lay2, hlay2⟩ : ∃ l, l = lay ++ [((E : Int) - (F : Int))] := ⟨_, rfl⟩
      rw [← hlay2] at s2
      have HLAY := Lib.hid hlay2
      have SX2 := Lib.hid (show Sx kf w1 W2 B base mb (.slice aa n ca) S cl L0 F (.slice (some ⟨gp, 0, none⟩) L0.length cp) vl2 lay2 P St mo mn mc from
        ⟨s2, fun j hj => (SXD.out.pl j hj).keep k2, SX.out.st, SXD.out.mv.keep k2, SX.out.sl⟩)
      clear s2 k2 hvl2 hlay2 ho hg hb' hlt' s0 s1 c1 c2 wE hW2
      have LL := Lib.hid (show L0.length ≤ most by have := HE.out; omega)
      go_wp2
      go_loopw [10] (fun i wr => ∃ (k : Nat) (vp' : Value) (P' St' : Nat → Value), i = .int .i64 k ∧ k ≤ E ∧ Mid L0 (seqN S H cl k) F lay k ∧ Sx kf w1 wr B base mb (.slice aa n ca) S cl (seqN S H cl k) k vp' vl2 lay2 P' St' mo mn mc ∧ (seqN S H cl k).length ≤ most) (fun i _ => E + 1 - (intOf i).toNat)
      case atStart =>
        exact ⟨F, _, P, St, rfl, by omega, by rw [← EL.out]; exact LY.out.mid, by rw [← EL.out]; exact SX2.out, by rw [← EL.out]; exact LL.out⟩
      case round =>
        obtain ⟨k, vp3, P3, St3, rfl, hkE, hmid, hsx, hfew⟩ := hrel
        obtain ⟨L, hL⟩ : ∃ L, L = seqN S H cl k := ⟨_, rfl⟩
        have hfd := found_seq cl HG.out k
        rw [← hL] at hmid hsx hfew hfd
        have EK := Lib.hid hL; clear hL
        have MD := Lib.hid hmid; clear hmid
        have XX := Lib.hid hsx; clear hsx
        have FD := Lib.hid hfd; clear hfd
        have FEW := Lib.hid hfew; clear hfew
        have EL0 := Lib.hid (show E ≤ L.length by have := MD.out.pre.length_le; have := HE.out; omega)
        have zl : 0 < L.length := by have := EL0.out; omega
        by_cases hlt : k < E
        · have KL := Lib.hid (show k < L.length by have := EL0.out; omega)
          have L4 := Lib.hid (show L.length ≤ 4000 by have := FEW.out; omega)
          clear zl
          go_wp2_with fail
          refine (goOn_any kf KF w1 _ B base mb aa n ca S H L k vp3 vl2 lay2 P3 St3 mo mn mc cl A1.out XX.out.sr XX.out.pl XX.out.st XX.out.sl FD.out KL.out L4.out XX.out.mv).mono ?_
          rintro e w2 ⟨rfl, vp4, P4, St4, s4, pl4, st4, sl4, kp4⟩
          have M1 := Lib.hid (MD.out.go (S := S) (cl := cl) (show k < L0.length by have := HE.out; omega))
          have PF := Lib.hid (goN_prefix S cl L k)
          have ES := Lib.hid (show seqN S H cl (k + 1) = goN S cl L k from by rw [seqN_succ (by rw [← EK.out]; exact KL.out), ← EK.out])
          have X4 := Lib.hid (show Sx kf w1 w2 B base mb (.slice aa n ca) S cl (goN S cl L k) (k + 1) vp4 vl2 lay2 P4 St4 mo mn mc from ⟨s4, pl4, fun j h1 h2 => st4 j (by omega) h2, XX.out.mv.keep kp4, sl4⟩)
          clear s4 pl4 st4 sl4 kp4
          obtain ⟨L5, hL5⟩ : ∃ L5, L5 = goN S cl L k := ⟨_, rfl⟩
          rw [← hL5] at M1 PF ES X4
          have z5 : 0 < L5.length := by have := PF.out.length_le; have := KL.out; omega
          obtain ⟨g5, c5, e5, cc1, _, _, _⟩ := X4.out.sr.at (k := 0) z5
          subst e5
          obtain ⟨T, hT⟩ : ∃ T, T = L5.length := ⟨_, rfl⟩
          rw [← hT] at cc1
          have HT := Lib.hid hT
          clear hT z5 hL5
          by_cases hov : most < T
          · have hovI : (most : Int) < (T : Int) := by omega
            have fo := few_over (S := S) (H := H) (cl := cl) (most := most) (k := k + 1) (L := L5) (by have := FEW.out; have := KL.out; omega) (by rw [ES.out]; exact List.prefix_refl _) (by have := HT.out; omega)
            have FO := Lib.hid fo; clear fo
            obtain ⟨⟨y0, yc0⟩, yf0⟩ := AT.out.res 0 (by omega)
            obtain ⟨⟨y1, yc1⟩, yf1⟩ := AT.out.res 1 (by omega)
            obtain ⟨⟨y2, yc2⟩, yf2⟩ := AT.out.res 2 (by omega)
            obtain ⟨⟨y3, yc3⟩, yf3⟩ := AT.out.res 3 (by omega)
            have r0 := X4.out.sr.new.cell yc0
            have rf0 := X4.out.sr.new.frz yc0 yf0
            have r1 := X4.out.sr.new.cell yc1
            have rf1 := X4.out.sr.new.frz yc1 yf1
            have r2 := X4.out.sr.new.cell yc2
            have rf2 := X4.out.sr.new.frz yc2 yf2
            have r3 := X4.out.sr.new.cell yc3
            have rf3 := X4.out.sr.new.frz yc3 yf3
            clear yc0 yc1 yc2 yc3 yf0 yf1 yf2 yf3
            go_wp2
            simp only [Exit.jump]
            obtain ⟨q0, q1, q2, q3, qc⟩ := four_set (.slice none 0 0) (.slice none 0 0) (.slice none 0 0) (.map none) r0 r1 r2 r3
            refine bodyPost_ret (v := .tuple #[noneS, .bool false]) (res_reached rfl rfl q0 q1 q2 q3) rfl ⟨Chg.new (AT.out.new.trans X4.out.sr.new) qc (fun i hi => by omega), ?_⟩
            rw [if_neg (by rw [FO.out]; simp)]
          · have hovI : ¬ (most : Int) < (T : Int) := by omega
            go_wp2
            go_roundw
            case rel => exact ⟨k + 1, _, P4, St4, by go_num, by omega, by rw [ES.out]; exact M1.out, by rw [ES.out]; exact X4.out, by rw [ES.out]; have := HT.out; omega⟩
            case measure => simp [intOf]; omega
        · obtain rfl : k = E := by omega
          obtain ⟨g5, c5, e5, cc1, _, _, _⟩ := XX.out.sr.at (k := 0) zl
          subst e5
          obtain ⟨T, hT⟩ : ∃ T, T = L.length := ⟨_, rfl⟩
          rw [← hT] at cc1
          have HT := Lib.hid hT
          have MD2 := Lib.hid (show Mid L0 L F lay L0.length from by have q := MD.out; rw [HE.out] at q; exact q)
          clear hT zl
          obtain ⟨⟨y0, yc0⟩, yf0⟩ := AT.out.res 0 (by omega)
          obtain ⟨⟨y1, yc1⟩, yf1⟩ := AT.out.res 1 (by omega)
          obtain ⟨⟨y2, yc2⟩, yf2⟩ := AT.out.res 2 (by omega)
          obtain ⟨⟨y3, yc3⟩, yf3⟩ := AT.out.res 3 (by omega)
          have r0 := XX.out.sr.new.cell yc0
          have rf0 := XX.out.sr.new.frz yc0 yf0
          have r1 := XX.out.sr.new.cell yc1
          have rf1 := XX.out.sr.new.frz yc1 yf1
          have r2 := XX.out.sr.new.cell yc2
          have rf2 := XX.out.sr.new.frz yc2 yf2
          have r3 := XX.out.sr.new.cell yc3
          have rf3 := XX.out.sr.new.frz yc3 yf3
          have b0 := XX.out.sr.c0
          have b3 := XX.out.sr.c3
          have b2 : wr.cell? ⟨B, 2, none⟩ = some vl2 := XX.out.sr.box.cell (q2 vl2 lay2) (by simp)
          clear yc0 yc1 yc2 yc3 yf0 yf1 yf2 yf3
          by_cases hmore : k < T
          · have hmI : (k : Int) < (T : Int) := by omega
            have HX := Lib.hid (show Lay L k lay2 from by
              have q := MD2.out.next (by have := HT.out; have := HE.out; omega)
              rw [HLAY.out]
              rw [← HE.out] at q
              exact q)
            go_wp2
            apply wp_goto
            refine ⟨rfl, ⟨k, B, base, mb, mo, mn, mc, w1, _, vl2, lay2, P3, St3, _, _, _, _, _, _, _, _, _, _, _, _, _, _, _, _, _, _, _, _, _, _, _, _, _, _, _, _, _, _, _, _, _, _, _, _, _, _, _, _, _, _, _, _, _, _, _, _, _, _, _, rfl, ⟨AT.out.new, AT.out.res, by rw [← EK.out]; exact XX.out, by rw [← EK.out]; exact HX.out, by rw [← EK.out]; exact FEW.out⟩⟩, ?_⟩
            have h9 := FEW.out
            have h8 := EL0.out
            simp [intOf]
            omega
          · have hmI : ¬ (k : Int) < (T : Int) := by omega
            have zB9 : B < wr.heap.size := World.block_lt_of_cell? _ _ cc1
            have hR1 : w.heap.size + 1 < w1.heap.size := World.block_lt_of_cell? w1 ⟨w.heap.size + 1, 0, none⟩ (AT.out.res 0 (by omega)).1.choose_spec
            have hlo := XX.out.sr.lo
            have hBR : B ≠ w.heap.size + 1 := by omega
            have HR1 := Lib.hid (And.intro hR1 hlo)
            have e2 := VL2.out
            subst e2
            have LT := Lib.hid (show L.length = k from by have := HT.out; have := EL0.out; omega)
            have fd := few_done (S := S) (H := H) (cl := cl) (most := most) (k := k) (by rw [← EK.out]; exact LT.out) (by have := FEW.out; have := LT.out; omega)
            rw [← EK.out] at fd
            have FN := Lib.hid fd; clear fd
            have HY := Lib.hid (show lay2 = layN L from by
              rw [HLAY.out, ← MD2.out.last (by have := LT.out; have := HE.out; omega), HE.out])
            clear hR1 hlo
            go_wp2
            simp only [Exit.jump]
            obtain ⟨q0, q1, q2, q3, qc⟩ := four_set (.slice aa n ca) (.slice (some ⟨g5, 0, none⟩) T c5) (.slice (some ⟨g2, 0, none⟩) (d + 1) cap2) (.map (some mb)) r0 r1 r2 r3
            refine bodyPost_ret (v := .tuple #[.agg #[.slice aa n ca, .slice (some ⟨g5, 0, none⟩) T c5, .slice (some ⟨g2, 0, none⟩) (d + 1) cap2, .map (some mb)], .bool true]) (res_reached rfl rfl q0 q1 q2 q3) rfl ⟨Chg.new (AT.out.new.trans XX.out.sr.new) qc (fun i hi => by omega), ?_⟩
            rw [if_pos ⟨hg, FN.out.1⟩, FN.out.2, ← HY.out]
            have fv := (XX.out.found AT.out.new).chg qc (by omega) (by have := HR1.out; omega) (by have := HR1.out; omega)
            exact ⟨base, mb, _, _, P3, St3, by rw [HT.out], fv⟩
    · intro PASS
      have PS := Lib.hid PASS; clear PASS
      go_wp2_with fail
      refine (iAreVessels_any _ _ _ _ _ _ _ _ _ (HA.out.new (by repeat (first | with_reducible exact New.refl _ | with_reducible assumption | refine New.drewN ?_ _ | refine New.drew ?_ | refine New.alloc ?_ _ | refine New.setCell ?_ (by first | omega | (simp; omega) | (simp; done)) _ | (refine New.trans ?_ (by assumption))))) (HB.out.new (by repeat (first | with_reducible exact New.refl _ | with_reducible assumption | refine New.drewN ?_ _ | refine New.drew ?_ | refine New.alloc ?_ _ | refine New.setCell ?_ (by first | omega | (simp; omega) | (simp; done)) _ | (refine New.trans ?_ (by assumption)))))).mono ?_
      rintro e w1 ⟨rfl, n1⟩
      rw [hg]
      have a0 : w1.cell? ⟨w.heap.size, 0, none⟩ = some (.slice aa n ca) := n1.cell (by simp [go_sem])
      have a1 : w1.cell? ⟨w.heap.size, 1, none⟩ = some (.slice ab m cb) := n1.cell (by simp [go_sem])
      have N1 := Lib.hid (show New w w1 from New.trans (by repeat (first | with_reducible exact New.refl _ | with_reducible assumption | refine New.drewN ?_ _ | refine New.drew ?_ | refine New.alloc ?_ _ | refine New.setCell ?_ (by first | omega | (simp; omega) | (simp; done)) _ | (refine New.trans ?_ (by assumption)))) n1)
      have Z1 := Lib.hid (show w.heap.size + 1 < w1.heap.size from by have := n1.size; simp at this; omega)
      have RS := Lib.hid (show ∀ i, i < 4 → (∃ v, w1.cell? ⟨w.heap.size + 1, i, none⟩ = some v) ∧ w1.frozen? ⟨w.heap.size + 1, i, none⟩ = false from fun i hi => by
        match i, hi with
        | 0, _ => exact ⟨⟨_, n1.cell (v := .slice none 0 0) (by simp [go_sem])⟩, n1.frz (v := .slice none 0 0) (by simp [go_sem]) (by simp [go_sem])⟩
        | 1, _ => exact ⟨⟨_, n1.cell (v := .slice none 0 0) (by simp [go_sem])⟩, n1.frz (v := .slice none 0 0) (by simp [go_sem]) (by simp [go_sem])⟩
        | 2, _ => exact ⟨⟨_, n1.cell (v := .slice none 0 0) (by simp [go_sem])⟩, n1.frz (v := .slice none 0 0) (by simp [go_sem]) (by simp [go_sem])⟩
        | 3, _ => exact ⟨⟨_, n1.cell (v := .map none) (by simp [go_sem])⟩, n1.frz (v := .map none) (by simp [go_sem]) (by simp [go_sem])⟩)
      clear n1
      go_upto_region 4 with fail
      obtain ⟨v2, hv2⟩ : ∃ v, v = (w1.alloc (.map #[] 0)).alloc (.cells #[.slice aa n ca, .slice none 0 0, .slice none 0 0, .map (some w1.heap.size)] 60) := ⟨_, rfl⟩
      rw [← hv2]
      have s2 := Srch.start kf w1 w1 (.slice aa n ca) 60 (New.refl _)
      rw [← hv2] at s2
      have S2 := Lib.hid s2; clear s2 hv2 hmm
      have a0' := S2.out.new.cell a0
      have a1' := S2.out.new.cell a1
      go_wp2_with fail
      refine (holdingOf_any _ _ _ _ _ _ _ H (HB.out.new (N1.out.trans S2.out.new)) (by have := HG.out.1; have := HG.out.2.1; omega)).mono ?_
      rintro e w3 ⟨rfl, n3⟩
      replace a0' := n3.cell a0'
      replace a1' := n3.cell a1'
      have S3 := Lib.hid (S2.out.newer n3); clear n3
      go_wp2_with fail
      refine (add_any kf KF w1 _ (w1.heap.size + 1) w1.heap.size w1.heap.size (.slice aa n ca) S H [] nilS nilS [] (fun _ => nilS) (fun _ => nilS) ⟨H, -1, (0, 0), 0⟩ none 0 0 S3.out (Or.inl rfl) HG.out rfl (by simp)).mono ?_
      rintro e w4 ⟨rfl, g, cap, s4, kp4⟩
      have S4 := Lib.hid s4; clear s4
      replace a0' : w4.cell? ⟨w.heap.size, 0, none⟩ = some (.slice aa n ca) := S4.out.new.cell a0
      clear a1' a1
      have zn : n ≤ 9223372036854775807 := by omega
      go_wp2_with fail
      refine (movesAmong_any _ n cl q1' q5).mono ?_
      rintro e w5 ⟨ma, mn, mc, rfl, om, n5⟩
      have OM := Lib.hid om; clear om
      have S5 := Lib.hid (S4.out.newer n5)
      have fd := found_seq cl HG.out 0
      have hmv : MovF w5 (w1.heap.size + 1) [.slice (some ⟨g, 0, none⟩) (([] : List Node).length + 1) cap, nilS, blkV w1.heap.size] ma mn mc (allL S.length cl) := by
        refine ⟨by rw [← HN.out]; exact OM.out.pairs, fun b hb e => S4.out.fresh (OM.out.bounds hb e).1⟩
      have MV := Lib.hid hmv; clear hmv
      go_wp2
      apply wp_label
      rename_i K hK
      refine hK _ _ (PS.out _ _ ⟨0, w1.heap.size + 1, w1.heap.size, w1.heap.size, ma, mn, mc, w1, _, nilS, [], _, _, _, _, _, _, _, _, _, _, _, _, _, _, _, _, _, _, _, _, _, _, _, _, _, _, _, _, _, _, _, _, _, _, _, _, _, _, _, _, _, _, _, _, _, _, _, _, _, _, _, _, _, rfl, ⟨N1.out, RS.out, ⟨S5.out, fun j hj => ?_, fun j h1 h2 => ?_, MV.out, fun j hj => ?_⟩, Lay.start H, hm1⟩⟩)
      · obtain rfl : j = 0 := by simp [seqN] at hj; exact hj
        rw [wayN_root fd]
        exact PlanAt.nil _ _ _ _
      · obtain rfl : j = 0 := by simp [seqN] at h2; exact h2
        rfl
      · obtain rfl : j = 0 := by simp [seqN] at hj; exact hj
        exact ⟨_, _, _, rfl⟩
  · have hgf : goodB S H = false := by simpa using hg
    go_enter Try.func36, Try.ntmps36
    go_wp2
    refine wp_scope_jumps 0 (fun _ _ => False) (fun _ _ => 0) rfl ?_ (fun _ _ h => h.elim)
    go_wp2_with fail
    refine (iAreVessels_any _ _ _ _ _ _ _ _ _ (HA.out.new (by repeat (first | with_reducible exact New.refl _ | with_reducible assumption | refine New.drewN ?_ _ | refine New.drew ?_ | refine New.alloc ?_ _ | refine New.setCell ?_ (by first | omega | (simp; omega) | (simp; done)) _ | (refine New.trans ?_ (by assumption))))) (HB.out.new (by repeat (first | with_reducible exact New.refl _ | with_reducible assumption | refine New.drewN ?_ _ | refine New.drew ?_ | refine New.alloc ?_ _ | refine New.setCell ?_ (by first | omega | (simp; omega) | (simp; done)) _ | (refine New.trans ?_ (by assumption)))))).mono ?_
    rintro e w1 ⟨rfl, n1⟩
    rw [hgf]
    have N1 := Lib.hid (show New w w1 from New.trans (by repeat (first | with_reducible exact New.refl _ | with_reducible assumption | refine New.drewN ?_ _ | refine New.drew ?_ | refine New.alloc ?_ _ | refine New.setCell ?_ (by first | omega | (simp; omega) | (simp; done)) _ | (refine New.trans ?_ (by assumption)))) n1)
    have r0 : w1.cell? ⟨w.heap.size + 1, 0, none⟩ = some (.slice none 0 0) := n1.cell (by simp [go_sem])
    have r1 : w1.cell? ⟨w.heap.size + 1, 1, none⟩ = some (.slice none 0 0) := n1.cell (by simp [go_sem])
    have r2 : w1.cell? ⟨w.heap.size + 1, 2, none⟩ = some (.slice none 0 0) := n1.cell (by simp [go_sem])
    have r3 : w1.cell? ⟨w.heap.size + 1, 3, none⟩ = some (.map none) := n1.cell (by simp [go_sem])
    have rf0 : w1.frozen? ⟨w.heap.size + 1, 0, none⟩ = false := n1.frz (v := .slice none 0 0) (by simp [go_sem]) (by simp [go_sem])
    have rf1 : w1.frozen? ⟨w.heap.size + 1, 1, none⟩ = false := n1.frz (v := .slice none 0 0) (by simp [go_sem]) (by simp [go_sem])
    have rf2 : w1.frozen? ⟨w.heap.size + 1, 2, none⟩ = false := n1.frz (v := .slice none 0 0) (by simp [go_sem]) (by simp [go_sem])
    have rf3 : w1.frozen? ⟨w.heap.size + 1, 3, none⟩ = false := n1.frz (v := .map none) (by simp [go_sem]) (by simp [go_sem])
    clear n1
    go_wp2
    simp only [Exit.jump]
    obtain ⟨q0, q1, q2, q3, qc⟩ := four_set (.slice none 0 0) (.slice none 0 0) (.slice none 0 0) (.map none) r0 r1 r2 r3
    refine bodyPost_ret (v := .tuple #[noneS, .bool false]) (res_reached rfl rfl q0 q1 q2 q3) rfl ⟨Chg.new N1.out qc (fun i hi => by omega), ?_⟩
    rw [if_neg (by simp [hgf])]
end Go.Proofs.Ytilepckgcgdjgaa
