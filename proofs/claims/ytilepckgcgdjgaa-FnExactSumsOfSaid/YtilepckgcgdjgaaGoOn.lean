/- The steps from a place: the walk. -/
import Derived.Test.YtilepckgcgdjgaaGone
import Derived.Deep.RegionHeld3
import Derived.Deep.QuietTactic
import Derived.BigQuiet
namespace Go.Proofs.Ytilepckgcgdjgaa
open Go.RowKit Go.Maps

theorem own_slice {w : World} {base : Nat} {e : TypeId} {size n : Nat} {v : Value} {xs : List Value} (h : w.ownsRow base e size v n xs) : ∃ ao cap, v = .slice ao n cap := by
  obtain ⟨_, h⟩ := h
  rcases h with ⟨rfl, rfl⟩ | ⟨g, cap, cur, rfl, _⟩
  · exact ⟨_, _, rfl⟩
  · exact ⟨_, _, rfl⟩
theorem cell_keptD {w : World} {p : Addr} {v : Value} {o : Obj} (h : w.cell? p = some v) : ((w.alloc o).drew).cell? p = some v := World.cell_kept h
theorem New.box5 {W W' : World} {t : TypeId} (h : New (W.alloc (.cells #[.int .i64 0, .int .i64 0, .int .i64 0, .int .i64 0, .int .i64 0] t)).drew W') : Box5 W' W.heap.size [] :=
  Box5.new (by simpa using Box5.made W [] t) h.undrew
theorem cell_set5 {w : World} {p : Addr} {b : Nat} {v : Value} (h : w.cell? p = some v) (hn : p.block ≠ b) (a0 a1 a2 a3 a4 : Value) :
    (((((w.setCell ⟨b, 0, none⟩ a0).setCell ⟨b, 1, none⟩ a1).setCell ⟨b, 2, none⟩ a2).setCell ⟨b, 3, none⟩ a3).setCell ⟨b, 4, none⟩ a4).cell? p = some v :=
  World.cell_set (World.cell_set (World.cell_set (World.cell_set (World.cell_set h hn) hn) hn) hn) hn
/-- Between two moves that are tried from number k. -/
structure Stp (kf : List Int → Lit) (w0 w : World) (B base mb : Nat) (sv : Value) (M : List Node) (k : Nat) (vp vl : Value) (lay : List Int) (P St : Nat → Value) (sn : Nat) (sxs : List Value) : Prop where
  sr : Srch kf w0 w B base mb sv M vp vl lay P St
  own : w.ownsRow base 99 4 (St k) sn sxs
  far : ∀ b, (St k).ownBlock = some b → Far B [vp, vl, blkV mb] b
  pl : ∀ j, j < M.length → PlanAt w B base [vp, vl, blkV mb, St k] (wayN M j) (P j)
  rest : ∀ j, k < j → j < M.length → St j = nilS
  sl : ∀ j, j < M.length → ∃ ao m' cap', St j = Value.slice ao m' cap'
theorem Stp.newer {kf : List Int → Lit} {w0 w w' : World} {B base mb : Nat} {sv : Value} {M : List Node} {k : Nat} {vp vl : Value} {lay : List Int} {P St : Nat → Value} {sn : Nat} {sxs : List Value} (h : Stp kf w0 w B base mb sv M k vp vl lay P St sn sxs) (n : New w w') : Stp kf w0 w' B base mb sv M k vp vl lay P St sn sxs :=
  ⟨h.sr.newer n, ownsRow_new h.own n, h.far, fun j hj => (h.pl j hj).keep (Keeps.of_new n), h.rest, h.sl⟩
theorem Stp.fresh {kf : List Int → Lit} {w0 w : World} {B base mb : Nat} {sv : Value} {M : List Node} {k : Nat} {vp vl : Value} {lay : List Int} {P St : Nat → Value} {sn : Nat} {sxs : List Value} (h : Stp kf w0 w B base mb sv M k vp vl lay P St sn sxs) {b : Nat} (hb : w.heap.size ≤ b) : Far B [vp, vl, blkV mb, St k] b := by
  refine ⟨by have := h.sr.box.lt (r := q1 vp M P St) (by simp); omega, fun v hv e2 => ?_⟩
  simp only [List.mem_cons, List.not_mem_nil, or_false] at hv
  rcases hv with rfl | rfl | rfl | rfl
  · have := (h.sr.box.own (q1 v M P St) (by simp)).lt _ e2; omega
  · have := (h.sr.box.own (q2 v lay) (by simp)).lt _ e2; omega
  · simp [Value.ownBlock, blkV] at e2
    obtain ⟨D, om, _⟩ := h.sr.map
    have := ownsMap_low om
    omega
  · have := (h.own.lt _ e2).2; omega
theorem Far.three {B b : Nat} {a c d e : Value} (h : Far B [a, c, d, e] b) : Far B [a, c, d] b := h.less fun u hu => by
  simp only [List.mem_cons, List.not_mem_nil, or_false] at hu ⊢
  rcases hu with h | h | h
  · exact .inl (.inl h)
  · exact .inl (.inr (.inl h))
  · exact .inl (.inr (.inr (.inl h)))
def GoRet (kf : List Int → Lit) (w0 w : World) (B base mb : Nat) (sv : Value) (M : List Node) (k : Nat) (vp vl : Value) (lay : List Int) (e : Ending) (w' : World) : Prop :=
  e = .returned (.tuple #[]) ∧ ∃ vp' P' St', Srch kf w0 w' B base mb sv M vp' vl lay P' St' ∧ (∀ j, j < M.length → PlanAt w' B base [vp', vl, blkV mb] (wayN M j) (P' j)) ∧ (∀ j, k < j → j < M.length → St' j = nilS) ∧ (∀ j, j < M.length → ∃ ao m' cap', St' j = Value.slice ao m' cap') ∧ Keeps w w' B [vp, vl, blkV mb] [vp', vl, blkV mb]

theorem look_quiet {w : World} {mb q : Nat} {D : DataW Unit} {A : List Int} {kl : Lit} (h : w.ownsMap Try.prog 67 (plainElem Try.prog 3) mb q D) (hk : keyOf Try.prog 67 (holdV A) = some kl) :
    ∃ c : Int, ∀ n, (Instr.lookup 58 (.map (some mb)) (holdV A) true).run Try.prog (w.drewN n) = .ok (.tuple #[.int .i64 c, .bool (has D kl)]) (w.drewN n) := by
  have key : ∀ n, ∃ c : Int, (Instr.lookup 58 (.map (some mb)) (holdV A) true).run Try.prog (w.drewN n) = .ok (.tuple #[.int .i64 c, .bool (has D kl)]) (w.drewN n) ∧ D.atKey kl (.lit (.int .i64 0)) = .lit (.int .i64 c) := fun n => by
    have h' : (w.drewN n).ownsMap Try.prog 67 (plainElem (H := Unit) Try.prog 3) mb q D := ownsMap_blk h (((New.refl w).drewN n).block mb (ownsMap_low h))
    obtain ⟨lv, lps, hrun, hlv⟩ := h'.look_ok holdLaw Try.underlying58 (z := .int .i64 0) (by kernel_rfl) (plainElem_int Try.underlying3 (by decide)) hk
    obtain ⟨c, rfl, hc, _⟩ := plainElem_int_inv Try.underlying3 hlv
    simp only [Prod.mk.injEq] at hc
    exact ⟨c, hrun, hc.1⟩
  obtain ⟨c, _, hc⟩ := key 0
  refine ⟨c, fun n => ?_⟩
  obtain ⟨c', hr, hc'⟩ := key n
  rw [hc'] at hc
  have : c' = c := by simpa using hc
  rw [← this]
  exact hr
/-- A place has been added to what stands between two moves. -/
theorem Stp.added {kf : List Int → Lit} {w0 w w5 w' : World} {B base mb g cap qn qc : Nat} {sv : Value} {S H0 : List Int} {M : List Node} {k : Nat} {vp vl : Value} {lay : List Int} {P St : Nat → Value} {sn : Nat} {sxs : List Value} {x : Node} {qo : Option Addr} (h : Stp kf w0 w B base mb sv M k vp vl lay P St sn sxs) (hf : Found S H0 M) (hk : k < M.length) (hfr : x.fr = (k : Int)) (n5 : New w w5)
    (ho : w5.ownsRow w.heap.size 77 2 (.slice qo qn qc) (wayN M k ++ [x.mv]).length (flat (wayN M k ++ [x.mv])))
    (sr : Srch kf w0 w' B base mb sv (M ++ [x]) (.slice (some ⟨g, 0, none⟩) (M.length + 1) cap) vl lay (upto P M.length (.slice qo qn qc)) (upto St M.length nilS))
    (kp : ∀ us, Keeps w5 w' B ([vp, vl, blkV mb] ++ us) ([.slice (some ⟨g, 0, none⟩) (M.length + 1) cap, vl, blkV mb] ++ us)) :
    Stp kf w0 w' B base mb sv (M ++ [x]) k (.slice (some ⟨g, 0, none⟩) (M.length + 1) cap) vl lay (upto P M.length (.slice qo qn qc)) (upto St M.length nilS) sn sxs ∧
      Keeps w w' B [vp, vl, blkV mb, St k] [.slice (some ⟨g, 0, none⟩) (M.length + 1) cap, vl, blkV mb, upto St M.length nilS k] ∧ upto St M.length nilS k = St k := by
  have h5 := h.newer n5
  have ek : upto St M.length nilS k = St k := by unfold upto; rw [if_neg (by omega)]
  have e1 : ∀ j, j < M.length → upto P M.length (.slice qo qn qc) j = P j := fun j hj => by unfold upto; rw [if_neg (by omega)]
  have kp1 : Keeps w5 w' B [vp, vl, blkV mb, St k] [.slice (some ⟨g, 0, none⟩) (M.length + 1) cap, vl, blkV mb, St k] := kp [St k]
  have kp0 : Keeps w5 w' B [vp, vl, blkV mb] [.slice (some ⟨g, 0, none⟩) (M.length + 1) cap, vl, blkV mb] := kp []
  refine ⟨⟨sr, ?_, fun b hb => ?_, fun j hj => ?_, fun j h1 h2 => ?_, fun j hj => ?_⟩, ?_, ek⟩
  · rw [ek]
    exact ownsRow_block h5.own fun b e => (kp0.2 b (h5.own.lt b e).2 (h5.far b e)).1
  · rw [ek] at hb
    exact (kp0.2 b (h5.own.lt b hb).2 (h5.far b hb)).2
  · rw [ek]
    by_cases e : j = M.length
    · subst e
      have hw := wayN_next hf hk hfr
      have hv : upto P M.length (.slice qo qn qc) M.length = .slice qo qn qc := by unfold upto; rw [if_pos rfl]
      rw [hw, hv]
      have z5 := n5.size
      have blo := h.sr.blo
      have fr : ∀ b, w.heap.size ≤ b → b < w5.heap.size → Far B [vp, vl, blkV mb, St k] b := fun b hb hb2 => by
        refine ⟨by have := h.sr.box.lt (r := q1 vp M P St) (by simp); omega, fun v hv e2 => ?_⟩
        simp only [List.mem_cons, List.not_mem_nil, or_false] at hv
        rcases hv with rfl | rfl | rfl | rfl
        · have := (h.sr.box.own (q1 v M P St) (by simp)).lt _ e2; omega
        · have := (h.sr.box.own (q2 v lay) (by simp)).lt _ e2; omega
        · simp [Value.ownBlock, blkV] at e2
          obtain ⟨D, om, _⟩ := h.sr.map
          have := ownsMap_low om
          omega
        · have := (h.own.lt _ e2).2; omega
      exact PlanAt.keep ⟨ownsRow_low ho blo, fun b e => fr b (ho.lt b e).1 (ho.lt b e).2⟩ kp1
    · have hj' : j < M.length := by rw [List.length_append] at hj; simp at hj; omega
      rw [e1 j hj', wayN_prefix hf (List.prefix_append _ _) hj']
      exact (h5.pl j hj').keep kp1
  · by_cases e : j = M.length
    · subst e; unfold upto; rw [if_pos rfl]
    · unfold upto
      rw [if_neg e]
      exact h.rest j h1 (by rw [List.length_append] at h2; simp at h2; omega)
  · by_cases e : j = M.length
    · subst e; unfold upto; rw [if_pos rfl]; exact ⟨_, _, _, rfl⟩
    · unfold upto
      rw [if_neg e]
      exact h.sl j (by rw [List.length_append] at hj; simp at hj; omega)
  · rw [ek]
    exact (Keeps.of_new n5).trans kp1

/-- A step has been added to those of number k. -/
theorem Stp.stepped {kf : List Int → Lit} {w0 w wA w' : World} {B base mb g cp gs sc : Nat} {sv : Value} {M : List Node} {k : Nat} {vl : Value} {lay : List Int} {P St : Nat → Value} {sn : Nat} {sxs sxs' : List Value} (h : Stp kf w0 w B base mb sv M k (.slice (some ⟨g, 0, none⟩) M.length cp) vl lay P St sn sxs) (hk : k < M.length) (kA : New w wA)
    (ho : w'.ownsRow base 99 4 (.slice (some ⟨gs, 0, none⟩) (sn + 1) sc) (sn + 1) sxs') (hg : wA.grownBy w' (St k).ownBlock) (hb : (St k).ownBlock = some gs ∨ gs = wA.heap.size) :
    Stp kf w0 (w'.setCell ⟨g, k * 7 + 6, none⟩ (.slice (some ⟨gs, 0, none⟩) (sn + 1) sc)) B base mb sv M k (.slice (some ⟨g, 0, none⟩) M.length cp) vl lay P (fun j => if j = k then .slice (some ⟨gs, 0, none⟩) (sn + 1) sc else St j) (sn + 1) sxs' ∧
      Keeps w (w'.setCell ⟨g, k * 7 + 6, none⟩ (.slice (some ⟨gs, 0, none⟩) (sn + 1) sc)) B [.slice (some ⟨g, 0, none⟩) M.length cp, vl, blkV mb, St k] [.slice (some ⟨g, 0, none⟩) M.length cp, vl, blkV mb, .slice (some ⟨gs, 0, none⟩) (sn + 1) sc] := by
  have hbox := h.sr.box
  have zA := kA.size
  have hgB : g ≠ B := fun e => hbox.nb (q1 (.slice (some ⟨g, 0, none⟩) M.length cp) M P St) (by simp) (by show some g = some B; rw [e])
  have gl := (hbox.own (q1 (.slice (some ⟨g, 0, none⟩) M.length cp) M P St) (by simp)).lt g rfl
  have hSB : some B ≠ (St k).ownBlock := fun e => (h.far B e.symm).1 rfl
  have hSg : some g ≠ (St k).ownBlock := fun e => (h.far g e.symm).2 (.slice (some ⟨g, 0, none⟩) M.length cp) (by simp) rfl
  obtain ⟨D, om, nu⟩ := h.sr.map
  have mlt := ownsMap_low om
  have hSm : some mb ≠ (St k).ownBlock := fun e => (h.far mb e.symm).2 (blkV mb) (by simp) rfl
  have hgm : mb ≠ g := fun e => h.sr.far.2 (.slice (some ⟨g, 0, none⟩) M.length cp) (by simp) (by show some g = some mb; rw [e])
  have hgsg : gs ≠ g := fun e => by
    rcases hb with hb | hb
    · exact hSg (by rw [hb, e])
    · omega
  have far3 : Far B [.slice (some ⟨g, 0, none⟩) M.length cp, vl, blkV mb] gs := by
    rcases hb with hb | hb
    · exact h.far gs hb
    · exact (h.fresh (b := gs) (by omega)).three
  have K1 : Keeps w w' B [.slice (some ⟨g, 0, none⟩) M.length cp, vl, blkV mb, St k] [.slice (some ⟨g, 0, none⟩) M.length cp, vl, blkV mb, .slice (some ⟨gs, 0, none⟩) (sn + 1) sc] :=
    (Keeps.of_new kA).trans (Keeps.grow0 (pre := [.slice (some ⟨g, 0, none⟩) M.length cp, vl, blkV mb]) (post := []) hg rfl hb)
  have C2 : Chg (fun b => (Value.slice (some ⟨g, 0, none⟩) M.length cp).ownBlock = some b) w' (w'.setCell ⟨g, k * 7 + 6, none⟩ (.slice (some ⟨gs, 0, none⟩) (sn + 1) sc)) :=
    (Chg.setCell (p := ⟨g, k * 7 + 6, none⟩) _).mono fun b e => by rw [e]; rfl
  have K2 : Keeps w' (w'.setCell ⟨g, k * 7 + 6, none⟩ (.slice (some ⟨gs, 0, none⟩) (sn + 1) sc)) B [.slice (some ⟨g, 0, none⟩) M.length cp, vl, blkV mb, .slice (some ⟨gs, 0, none⟩) (sn + 1) sc] [.slice (some ⟨g, 0, none⟩) M.length cp, vl, blkV mb, .slice (some ⟨gs, 0, none⟩) (sn + 1) sc] :=
    Keeps.of_chg (v := .slice (some ⟨g, 0, none⟩) M.length cp) (by simp) C2
  have KK := K1.trans K2
  have C1 : Chg (fun b => (St k).ownBlock = some b) w w' := (Chg.of_new kA).trans ⟨hg.os, hg.tape, hg.output, hg.size, fun i hi hp => hg.block i hi (fun e => hp e.symm)⟩
  have br1 := hbox.chg C1 (fun e => hSB e.symm) (fun r hr b e e2 => by
    simp only [List.mem_cons, List.not_mem_nil, or_false] at hr
    rcases hr with rfl | rfl
    · exact (h.far b e2).2 (.slice (some ⟨g, 0, none⟩) M.length cp) (by simp) e
    · exact (h.far b e2).2 vl (by simp) e)
  have st := World.ownsRow.stored (br1.own (q1 (.slice (some ⟨g, 0, none⟩) M.length cp) M P St) (by simp)) (k * 7 + 6) (.slice (some ⟨gs, 0, none⟩) (sn + 1) sc)
  have br2 := br1.turn (pre := []) (r := q1 (.slice (some ⟨g, 0, none⟩) M.length cp) M P St) (post := [q2 vl lay]) st.1 C2
  have eq : (q1 (.slice (some ⟨g, 0, none⟩) M.length cp) M P St).as (q1 (.slice (some ⟨g, 0, none⟩) M.length cp) M P St).v (q1 (.slice (some ⟨g, 0, none⟩) M.length cp) M P St).n ((flat7 (hA M) P St M.length).set (k * 7 + 6) (.slice (some ⟨gs, 0, none⟩) (sn + 1) sc)) =
      q1 (.slice (some ⟨g, 0, none⟩) M.length cp) M P (fun j => if j = k then .slice (some ⟨gs, 0, none⟩) (sn + 1) sc else St j) := by
    rw [flat7_set _ _ _ hk]
    rfl
  have br3 : BRows B base (w'.setCell ⟨g, k * 7 + 6, none⟩ (.slice (some ⟨gs, 0, none⟩) (sn + 1) sc)) [q1 (.slice (some ⟨g, 0, none⟩) M.length cp) M P (fun j => if j = k then .slice (some ⟨gs, 0, none⟩) (sn + 1) sc else St j), q2 vl lay] := by
    rw [← eq]
    exact br2
  have nw' : New w0 w' := New.grown (h.sr.new.trans kA) (ownsRow_new h.own kA) h.sr.lo.2.1 hg
  have gbase := ((hbox.own (q1 (.slice (some ⟨g, 0, none⟩) M.length cp) M P St) (by simp)).lt g rfl).1
  have cell : ∀ o v, w.cell? ⟨B, o, none⟩ = some v → (w'.setCell ⟨g, k * 7 + 6, none⟩ (.slice (some ⟨gs, 0, none⟩) (sn + 1) sc)).cell? ⟨B, o, none⟩ = some v := fun o v hc => by
    rw [set_other (fun e => by have q := congrArg Addr.block e; simp at q; exact hgB q)]
    exact hg.cell (kA.cell hc) hSB
  have ek : (fun j => if j = k then (.slice (some ⟨gs, 0, none⟩) (sn + 1) sc : Value) else St j) k = .slice (some ⟨gs, 0, none⟩) (sn + 1) sc := if_pos rfl
  refine ⟨⟨⟨nw'.setCell (by show w0.heap.size ≤ g; have := h.sr.lo; omega) _, h.sr.lo, cell _ _ h.sr.c0, cell _ _ h.sr.c3, br3, ⟨D, ?_, nu⟩, h.sr.far, ?_⟩, ?_, fun b e => ?_, fun j hj => ?_, fun j h1 h2 => ?_, fun j hj => ?_⟩, KK⟩
  · refine ownsMap_blk om ?_
    rw [Below.heap_setCell _ _ _ _ (fun e => hgm (by simpa using e))]
    exact (hg.block mb (by omega) hSm).trans (kA.block mb mlt)
  · have := hg.size
    have := h.sr.blo
    show base ≤ (w'.setCell _ _).heap.size
    simp [World.setCell]
    omega
  · show (w'.setCell _ _).ownsRow base _ 4 (if k = k then _ else _) _ _
    rw [if_pos rfl]
    exact ownsRow_block ho fun b e => Below.heap_setCell _ _ _ _ (fun e' => hgsg (by have q : some gs = some b := e; simp at e' q; omega))
  · have e2 : (Value.slice (some ⟨gs, 0, none⟩) (sn + 1) sc).ownBlock = some b := by rw [← ek]; exact e
    have e3 : gs = b := by simpa [Value.ownBlock] using e2
    rw [← e3]
    exact far3
  · show PlanAt _ _ _ [_, _, _, if k = k then _ else _] _ _
    rw [if_pos rfl]
    exact (h.pl j hj).keep KK
  · show (if j = k then _ else St j) = nilS
    rw [if_neg (by omega)]
    exact h.rest j h1 h2
  · show ∃ ao m' cap', (if j = k then _ else St j) = _
    by_cases e : j = k
    · rw [if_pos e]; exact ⟨_, _, _, rfl⟩
    · rw [if_neg e]; exact h.sl j hj

set_option maxRecDepth 100000 in
set_option maxHeartbeats 8000000 in
theorem goOn_any (kf : List Int → Lit) (KF : KeyH kf) (w0 w : World) (B base mb : Nat) (aa : Option Addr) (n ca : Nat) (S H0 : List Int) (L : List Node) (k : Nat) (vp vl : Value) (lay : List Int) (P St : Nat → Value) (mo : Option Addr) (mn mc : Nat) (cl : Bool)
    (h1 : Ints w0 aa n ca S) (hs : Srch kf w0 w B base mb (.slice aa n ca) L vp vl lay P St) (hpl : ∀ j, j < L.length → PlanAt w B base [vp, vl, blkV mb] (wayN L j) (P j)) (hst : ∀ j, k ≤ j → j < L.length → St j = nilS) (hsl : ∀ j, j < L.length → ∃ ao m' cap', St j = Value.slice ao m' cap')
    (hf : Found S H0 L) (hk : k < L.length) (hb : L.length ≤ 4000) (hm : MovF w B [vp, vl, blkV mb] mo mn mc (allL S.length cl)) :
    Calls Try.prog 58 #[.pointer (some ⟨B, 0, none⟩), .int .i64 k, .slice mo mn mc] w (GoRet kf w0 w B base mb (.slice aa n ca) (goN S cl L k) k vp vl lay) := by
  have SK := hst k (Nat.le_refl _) hk
  obtain ⟨gp, cp, rfl, c1, hc, hr, _⟩ := hs.at hk
  rw [SK] at hr
  obtain ⟨po, pc, hpo⟩ := own_slice (hpl k hk).1
  have FD := Lib.hid hf
  obtain ⟨H, hH⟩ : ∃ H, H = (L[k]?.getD dN).h := ⟨_, rfl⟩
  have gk := hf.good k hk
  rw [← hH] at gk hr
  rw [hpo] at hr
  have HP := Lib.hid hpo; clear hpo
  have GK := Lib.hid gk
  have HH := Lib.hid hH
  have S5 := gk.1
  have SM := allL_small (n := S.length) cl S5.2
  have ML := Lib.hid hm.1.len
  have m42 : mn ≤ 42 := by rw [hm.1.len]; exact SM
  have WS := Lib.hid (wayN_small hf hk)
  have NW0 := Lib.hid hs.new
  have A0 := Lib.hid h1
  have MF := Lib.hid hm
  have hr' : w.rangeAt gp (k * 7) [.int .i64 (H[0]?.getD 0), .int .i64 (H[1]?.getD 0), .int .i64 (H[2]?.getD 0), .int .i64 (H[3]?.getD 0), .int .i64 (H[4]?.getD 0), .slice po (wayN L k).length pc, .slice none 0 0] := hr
  obtain ⟨pn, hpn⟩ : ∃ pn, pn = (wayN L k).length := ⟨_, rfl⟩
  rw [← hpn] at hr'
  have PN := Lib.hid hpn
  obtain ⟨N, hN⟩ : ∃ N, N = L.length := ⟨_, rfl⟩
  rw [← hN] at c1 hb hk hc
  have HN := Lib.hid hN
  have HR := Lib.hid hr'
  have SR := Lib.hid hs
  have PL := Lib.hid hpl
  have ST := Lib.hid hst
  have SLH := Lib.hid hsl
  have kI : (k : Int) < (N : Int) := by omega
  have zB : B < w.heap.size := World.block_lt_of_cell? _ _ c1
  have zg : gp < w.heap.size := by have := hr' 0 _ rfl; exact World.block_lt_of_cell? _ _ this
  clear hN hpn hr hr' hs hpl hst hsl hm h1 SK hf hH gk S5 SM
  go_enter Try.func58, Try.ntmps58
  go_upto_region 1 with (first
    | (refine wpList_load_mid rfl 70 _ rfl gp (k * 7) (by first | rfl | simp [Act.eval, Act.put]) [.int .i64 (H[0]?.getD 0), .int .i64 (H[1]?.getD 0), .int .i64 (H[2]?.getD 0), .int .i64 (H[3]?.getD 0), .int .i64 (H[4]?.getD 0), .slice po pn pc, .slice none 0 0] _ HR.out Try.underlying70 rfl (by kernel_rfl) ?_))
  obtain ⟨v0, hv0⟩ : ∃ v, v = w.alloc (.cells #[.int .i64 (H[0]?.getD 0), .int .i64 (H[1]?.getD 0), .int .i64 (H[2]?.getD 0), .int .i64 (H[3]?.getD 0), .int .i64 (H[4]?.getD 0), .slice po pn pc, .slice none 0 0] 70) := ⟨_, rfl⟩
  rw [← hv0]
  have nv : New w v0 := by rw [hv0]; exact (by repeat (first | with_reducible exact New.refl _ | with_reducible assumption | refine New.drewN ?_ _ | refine New.drew ?_ | refine New.alloc ?_ _ | refine New.setCell ?_ (by first | omega | (simp; omega) | (simp; done)) _ | (refine New.trans ?_ (by assumption))))
  have PB := Lib.hid (show Box5 v0 w.heap.size H from by
    rw [hv0]
    refine ⟨by simp, fun i hi => ?_, fun i => by simp [go_sem]⟩
    match i, hi with
    | 0, _ => simp [go_sem]
    | 1, _ => simp [go_sem]
    | 2, _ => simp [go_sem]
    | 3, _ => simp [go_sem]
    | 4, _ => simp [go_sem])
  have P5 := Lib.hid (show v0.cell? ⟨w.heap.size, 5, none⟩ = some (.slice po pn pc) from by rw [hv0]; simp [go_sem])
  have FB := Lib.hid (show Far B [.slice (some ⟨gp, 0, none⟩) L.length cp, vl, blkV mb] w.heap.size from by
    refine ⟨by omega, fun v hv e2 => ?_⟩
    simp only [List.mem_cons, List.not_mem_nil, or_false] at hv
    rcases hv with rfl | rfl | rfl
    · simp [Value.ownBlock] at e2; omega
    · have := (SR.out.box.own (q2 v lay) (by simp)).lt _ e2; omega
    · simp [Value.ownBlock, blkV] at e2
      obtain ⟨D, om, _⟩ := SR.out.map
      have := ownsMap_low om
      omega)
  have NV := Lib.hid nv
  have S0 := Lib.hid (SR.out.newer nv)
  have MF0 := Lib.hid (MF.out.keep (Keeps.of_new (vs := [.slice (some ⟨gp, 0, none⟩) L.length cp, vl, blkV mb]) nv))
  have PL0 := Lib.hid (show ∀ j, j < L.length → PlanAt v0 B base [.slice (some ⟨gp, 0, none⟩) L.length cp, vl, blkV mb] (wayN L j) (P j) from fun j hj => (PL.out j hj).keep (Keeps.of_new nv))
  obtain ⟨vp, hvp⟩ : ∃ v, v = (.slice (some ⟨gp, 0, none⟩) L.length cp : Value) := ⟨_, rfl⟩
  rw [← hvp] at FB S0 MF0 PL0
  have HVP := Lib.hid hvp
  rw [← hvp]
  clear hvp
  have SKN := Lib.hid (show St k = nilS from ST.out k (Nat.le_refl _) (by have := HN.out; omega))
  clear hv0 nv c1 HR SR PL MF zg
  obtain ⟨ps, hps⟩ : ∃ ps, ps = allL S.length cl := ⟨_, rfl⟩
  rw [← hps] at ML MF0
  have PS := Lib.hid hps; clear hps
  have z0 : w.heap.size < v0.heap.size := PB.out.lt
  go_wp2
  go_loopw [23] (fun i wr => ∃ (j : Nat) (vp' : Value) (P' St' : Nat → Value) (sn : Nat) (sxs : List Value), i = .int .i64 j ∧ j ≤ mn ∧ sn ≤ j ∧ Stp kf w0 wr B base mb (.slice aa n ca) (gone S L k ps j) k vp' vl lay P' St' sn sxs ∧ Keeps v0 wr B [vp, vl, blkV mb] [vp', vl, blkV mb, St' k]) (fun i _ => mn - (intOf i).toNat)
  case atStart =>
    have e0 : St k = nilS := SKN.out
    refine ⟨0, vp, P, St, 0, [], rfl, Nat.zero_le _, Nat.le_refl _, ⟨S0.out, by rw [e0]; exact World.ownsRow_nil _ _ _ _, fun b e => (by rw [e0] at e; cases e), fun j hj => ?_, fun j h1 h2 => ST.out j (by omega) h2, SLH.out⟩, (Keeps.refl _ _ _).widen fun u hu => ?_⟩
    · exact (PL0.out j hj).keep ((Keeps.refl _ _ _).widen fun u hu => by
        simp only [List.mem_cons, List.not_mem_nil, or_false] at hu ⊢
        rcases hu with rfl | rfl | rfl | rfl
        · exact .inl (.inl rfl)
        · exact .inl (.inr (.inl rfl))
        · exact .inl (.inr (.inr rfl))
        · exact .inr e0)
    · simp only [List.mem_cons, List.not_mem_nil, or_false] at hu ⊢
      rcases hu with rfl | rfl | rfl | rfl
      · exact .inl (.inl rfl)
      · exact .inl (.inr (.inl rfl))
      · exact .inl (.inr (.inr rfl))
      · exact .inr e0
  case round =>
    obtain ⟨j, vp2, P2, St2, sn, sxs, rfl, hj, hsn, hstp, hkp⟩ := hrel
    have MV := Lib.hid (MF0.out.keep hkp)
    have FB2 := Lib.hid ((hkp.2 _ z0 FB.out).2)
    have PB2 := Lib.hid (PB.out.keep hkp FB.out)
    have P52 := Lib.hid (hkp.cell (p := ⟨w.heap.size, 5, none⟩) FB.out P5.out)
    have KP := Lib.hid hkp; clear hkp
    have SP := Lib.hid hstp; clear hstp
    have fm := gone_found (cl := cl) FD.out (show k < L.length by have := HN.out; omega) j
    have gl := gone_length S L k ps j
    have pf := gone_prefix S L k ps j
    rw [← PS.out] at fm
    obtain ⟨M, hM⟩ : ∃ M, M = gone S L k ps j := ⟨_, rfl⟩
    rw [← hM] at fm gl SP pf
    have EM := Lib.hid hM; clear hM
    have FM := Lib.hid fm; clear fm
    have PF := Lib.hid pf; clear pf
    obtain ⟨T, hT⟩ : ∃ T, T = M.length := ⟨_, rfl⟩
    have HT := Lib.hid hT
    have T5 : T ≤ 4100 := by rw [hT]; have := ML.out; have := HN.out; omega
    have kT : k < T := by rw [hT]; have := PF.out.length_le; have := HN.out; omega
    clear hT gl
    have cS := SP.out.sr.c0
    have zB2 : B < wr.heap.size := World.block_lt_of_cell? _ _ cS
    by_cases hlt : j < mn
    · obtain ⟨bm, om_, rfl, x0, x1⟩ := MV.out.1.2.2.2.1 j hlt
      obtain ⟨q, hq⟩ : ∃ q, q = ps[j]?.getD (0, 0) := ⟨_, rfl⟩
      have ok : MoveOk S.length q.1 q.2 := by
        have hl : j < (allL S.length cl).length := by rw [← PS.out]; have := ML.out; omega
        rw [hq, PS.out, List.getElem?_eq_getElem hl]
        exact allL_ok (List.getElem_mem hl)
      rw [← hq] at x0 x1
      obtain ⟨f, t⟩ := q
      simp only at x0 x1 ok
      have OK := Lib.hid ok; clear ok
      have HQ := Lib.hid hq; clear hq
      go_upto_region 4 with fail
      obtain ⟨v1, hv1⟩ : ∃ v, v = wr.alloc (.cells #[.int .i64 f, .int .i64 t] 77) := ⟨_, rfl⟩
      rw [← hv1]
      have nv : New wr v1 := by rw [hv1]; exact (by repeat (first | with_reducible exact New.refl _ | with_reducible assumption | refine New.drewN ?_ _ | refine New.drew ?_ | refine New.alloc ?_ _ | refine New.setCell ?_ (by first | omega | (simp; omega) | (simp; done)) _ | (refine New.trans ?_ (by assumption))))
      have b0 : v1.cell? ⟨wr.heap.size, 0, none⟩ = some (.int .i64 f) := by rw [hv1]; simp [go_sem]
      have b1 : v1.cell? ⟨wr.heap.size, 1, none⟩ = some (.int .i64 t) := by rw [hv1]; simp [go_sem]
      have w1 : v1.frozen? ⟨wr.heap.size, 0, none⟩ = false := by rw [hv1]; simp [go_sem]
      replace cS := nv.cell cS
      have NV1 := Lib.hid nv
      have PB3 := Lib.hid (PB2.out.new nv)
      obtain ⟨e0, e1, e2, e3, e4⟩ := PB3.out.five
      have A1 := Lib.hid (A0.out.new (SP.out.sr.new.trans nv))
      clear nv hv1 x0 x1 w1
      go_region_held3 (fun w' => w'.cell? ⟨B, 0, none⟩ = some (.slice aa n ca) ∧ w'.cell? ⟨w.heap.size, 0, none⟩ = some (.int .i64 (H[0]?.getD 0)) ∧ w'.cell? ⟨w.heap.size, 1, none⟩ = some (.int .i64 (H[1]?.getD 0)) ∧ w'.cell? ⟨w.heap.size, 2, none⟩ = some (.int .i64 (H[2]?.getD 0)) ∧ w'.cell? ⟨w.heap.size, 3, none⟩ = some (.int .i64 (H[3]?.getD 0)) ∧ w'.cell? ⟨w.heap.size, 4, none⟩ = some (.int .i64 (H[4]?.getD 0)) ∧ w'.cell? ⟨wr.heap.size, 0, none⟩ = some (.int .i64 f) ∧ w'.cell? ⟨wr.heap.size, 1, none⟩ = some (.int .i64 t))
        (first | exact ⟨cS, e0, e1, e2, e3, e4, b0, b1⟩ | exact ⟨dS, d0, d1, d2, d3, d4, g0, g1⟩ | fail)
        (first
          | (go_at_call 78; refine (amountIn_any _ _ _ _ S H f t (A1.out.new (by repeat (first | with_reducible exact New.refl _ | with_reducible assumption | refine New.drewN ?_ _ | refine New.drew ?_ | refine New.alloc ?_ _ | refine New.setCell ?_ (by first | omega | (simp; omega) | (simp; done)) _ | (refine New.trans ?_ (by assumption))))) GK.out OK.out).mono ?_; rintro e w3 ⟨rfl, n3⟩; (try replace n3 := New.undrew n3); have dS := n3.cell cS; have d0 := n3.cell e0; have d1 := n3.cell e1; have d2 := n3.cell e2; have d3 := n3.cell e3; have d4 := n3.cell e4; have g0 := n3.cell b0; have g1 := n3.cell b1))
      have K3 := Lib.hid (show New wr w3 from NV1.out.trans n3)
      have PB4 := Lib.hid (PB3.out.new n3)
      have A3 := Lib.hid (A1.out.new n3)
      clear n3 cS e0 e1 e2 e3 e4 b0 b1
      obtain ⟨am, ham⟩ : ∃ am, am = amt S H f t := ⟨_, rfl⟩
      have amb := amt_bd GK.out OK.out
      rw [← ham] at amb
      rw [← ham]
      have AM := Lib.hid ham; clear ham
      have HJ := Lib.hid (show j < ps.length by have := ML.out; omega)
      by_cases hz : am = 0
      · have EG := Lib.hid (show gone S L k ps (j + 1) = M from by
          rw [EM.out]
          exact gone_no HJ.out (by rw [← HQ.out, ← HH.out]; show amt S H f t = 0; rw [← AM.out]; exact hz))
        go_wp2
        go_roundw
        case rel => exact ⟨j + 1, vp2, P2, St2, sn, sxs, by go_num, by omega, by omega, by rw [EG.out]; exact SP.out.newer K3.out, KP.out.trans (Keeps.of_new K3.out)⟩
        case measure => simp [intOf]; omega
      · have EG := Lib.hid (show gone S L k ps (j + 1) = addN S M k (f, t) from by
          rw [EM.out, HQ.out]
          exact gone_yes HJ.out (by rw [← HQ.out, ← HH.out]; show amt S H f t ≠ 0; rw [← AM.out]; exact hz))
        have zB3 : B < w3.heap.size := World.block_lt_of_cell? _ _ dS
        obtain ⟨nx, hnx⟩ : ∃ nx, nx = poured S H f t := ⟨_, rfl⟩
        have NX := Lib.hid hnx; clear hnx
        have zpb : w.heap.size < w3.heap.size := World.block_lt_of_cell? _ _ d0
        have zmb : wr.heap.size < w3.heap.size := World.block_lt_of_cell? _ _ g0
        go_upto_region 6 with fail
        go_cut [10] (fun p W => ∃ b, p = .pointer (some ⟨b, 0, none⟩) ∧ Box5 W b nx ∧ New w3 W ∧ w3.heap.size ≤ b)
        case first =>
          have oS := dS
          replace dS : w3.drew.cell? ⟨B, 0, none⟩ = some (.slice aa n ca) := dS
          have o0 := d0
          replace d0 : w3.drew.cell? ⟨w.heap.size, 0, none⟩ = some (.int .i64 (H[0]?.getD 0)) := d0
          have o1 := d1
          replace d1 : w3.drew.cell? ⟨w.heap.size, 1, none⟩ = some (.int .i64 (H[1]?.getD 0)) := d1
          have o2 := d2
          replace d2 : w3.drew.cell? ⟨w.heap.size, 2, none⟩ = some (.int .i64 (H[2]?.getD 0)) := d2
          have o3 := d3
          replace d3 : w3.drew.cell? ⟨w.heap.size, 3, none⟩ = some (.int .i64 (H[3]?.getD 0)) := d3
          have o4 := d4
          replace d4 : w3.drew.cell? ⟨w.heap.size, 4, none⟩ = some (.int .i64 (H[4]?.getD 0)) := d4
          have l0 := g0
          replace g0 : w3.drew.cell? ⟨wr.heap.size, 0, none⟩ = some (.int .i64 f) := g0
          have l1 := g1
          replace g1 : w3.drew.cell? ⟨wr.heap.size, 1, none⟩ = some (.int .i64 t) := g1
          go_region_held3 (fun w' => w'.cell? ⟨B, 0, none⟩ = some (.slice aa n ca) ∧ w'.cell? ⟨w.heap.size, 0, none⟩ = some (.int .i64 (H[0]?.getD 0)) ∧ w'.cell? ⟨w.heap.size, 1, none⟩ = some (.int .i64 (H[1]?.getD 0)) ∧ w'.cell? ⟨w.heap.size, 2, none⟩ = some (.int .i64 (H[2]?.getD 0)) ∧ w'.cell? ⟨w.heap.size, 3, none⟩ = some (.int .i64 (H[3]?.getD 0)) ∧ w'.cell? ⟨w.heap.size, 4, none⟩ = some (.int .i64 (H[4]?.getD 0)) ∧ w'.cell? ⟨wr.heap.size, 0, none⟩ = some (.int .i64 f) ∧ w'.cell? ⟨wr.heap.size, 1, none⟩ = some (.int .i64 t))
            (first | with_reducible exact ⟨dS, d0, d1, d2, d3, d4, g0, g1⟩ | with_reducible exact ⟨cell_keptD oS, cell_keptD o0, cell_keptD o1, cell_keptD o2, cell_keptD o3, cell_keptD o4, cell_keptD l0, cell_keptD l1⟩ | with_reducible exact ⟨hS, h0, h1, h2, h3, h4, m0, m1⟩ | with_reducible exact ⟨World.cell_kept hS, World.cell_kept h0, World.cell_kept h1, World.cell_kept h2, World.cell_kept h3, World.cell_kept h4, World.cell_kept m0, World.cell_kept m1⟩ | (with_reducible refine ⟨cell_set5 hS ?_ _ _ _ _ _, cell_set5 h0 ?_ _ _ _ _ _, cell_set5 h1 ?_ _ _ _ _ _, cell_set5 h2 ?_ _ _ _ _ _, cell_set5 h3 ?_ _ _ _ _ _, cell_set5 h4 ?_ _ _ _ _ _, cell_set5 m0 ?_ _ _ _ _ _, cell_set5 m1 ?_ _ _ _ _ _⟩ <;> (simp; omega)) | (trace_state; fail))
            (first
              | (go_at_call 79; refine (pour_any _ _ _ _ S H f t (A3.out.new (by repeat (first | with_reducible exact New.refl _ | with_reducible assumption | refine New.drewN ?_ _ | refine New.drew ?_ | refine New.alloc ?_ _ | refine New.setCell ?_ (by first | omega | (simp; omega) | (simp; done)) _ | (refine New.trans ?_ (by assumption))))) GK.out OK.out).mono ?_; rintro e w4 ⟨rfl, n4⟩; have hS : w4.cell? ⟨B, 0, none⟩ = some (.slice aa n ca) := n4.cell (by first | with_reducible exact dS | with_reducible exact cell_keptD oS); have h0 : w4.cell? ⟨w.heap.size, 0, none⟩ = some (.int .i64 (H[0]?.getD 0)) := n4.cell (by first | with_reducible exact d0 | with_reducible exact cell_keptD o0); have h1 : w4.cell? ⟨w.heap.size, 1, none⟩ = some (.int .i64 (H[1]?.getD 0)) := n4.cell (by first | with_reducible exact d1 | with_reducible exact cell_keptD o1); have h2 : w4.cell? ⟨w.heap.size, 2, none⟩ = some (.int .i64 (H[2]?.getD 0)) := n4.cell (by first | with_reducible exact d2 | with_reducible exact cell_keptD o2); have h3 : w4.cell? ⟨w.heap.size, 3, none⟩ = some (.int .i64 (H[3]?.getD 0)) := n4.cell (by first | with_reducible exact d3 | with_reducible exact cell_keptD o3); have h4 : w4.cell? ⟨w.heap.size, 4, none⟩ = some (.int .i64 (H[4]?.getD 0)) := n4.cell (by first | with_reducible exact d4 | with_reducible exact cell_keptD o4); have m0 : w4.cell? ⟨wr.heap.size, 0, none⟩ = some (.int .i64 f) := n4.cell (by first | with_reducible exact g0 | with_reducible exact cell_keptD l0); have m1 : w4.cell? ⟨wr.heap.size, 1, none⟩ = some (.int .i64 t) := n4.cell (by first | with_reducible exact g1 | with_reducible exact cell_keptD l1); (try (have kk := New.box5 n4; have jj := kk.five; have ff := kk.warm; obtain ⟨j0, j1, j2, j3, j4⟩ := jj; obtain ⟨f0, f1, f2, f3, f4⟩ := ff))))
          all_goals (go_wp2_with fail; go_meet)
          all_goals first
            | exact ⟨_, rfl, by rw [NX.out]; exact Box5.made w4 _ _, (New.undrew n4).alloc _, (New.undrew n4).size⟩
            | exact ⟨_, rfl, by rw [NX.out]; exact kk.fill _, New.setCells (a := w3) (((New.refl w3).alloc _).drew.trans n4) (Nat.le_refl _) (cells5 (poured S H f t)) 0, Nat.le_refl _⟩
        case rest =>
          obtain ⟨hb10, rfl, bx, nw, hbl⟩ := hcut
          obtain ⟨w4, rfl⟩ : ∃ u : World, u = wc := ⟨_, rfl⟩
          have BN := Lib.hid bx; clear bx
          have N4 := Lib.hid (K3.out.trans nw)
          have dS4 := nw.cell dS
          have g04 := nw.cell g0
          have g14 := nw.cell g1
          clear dS d0 d1 d2 d3 d4 g0 g1 nw zpb zmb zB3
          have ST4 := Lib.hid (SP.out.newer N4.out)
          have c3 := ST4.out.sr.c3
          obtain ⟨D, om, nu⟩ := ST4.out.sr.map
          have OM := Lib.hid om; clear om
          have GX := Lib.hid (show Good S nx by rw [NX.out]; exact GK.out.poured OK.out)
          have HE := Lib.hid (nu.has_eq KF FM.out GX.out); clear nu
          have HKX := Lib.hid (KF nx (good_five GX.out))
          obtain ⟨t', ht'⟩ : ∃ t', t' = nHas M nx := ⟨_, rfl⟩
          rw [← ht'] at HE
          have HT' := Lib.hid ht'; clear ht'
          obtain ⟨e0, e1, e2, e3, e4⟩ := BN.out.five
          go_upto_region 7 with fail
          obtain ⟨c, hrun⟩ := look_quiet OM.out HKX.out
          rw [HE.out] at hrun
          go_quiet (fail)
          go_upto_if 55 with fail
          clear hrun
          obtain ⟨vv, hvv⟩ : ∃ v : World, v = w4.drewN nq := ⟨_, rfl⟩
          rw [← hvv]
          have nvv : New w4 vv := by rw [hvv]; exact (New.refl _).drewN _
          have SV := Lib.hid (ST4.out.newer nvv)
          have BV := Lib.hid (BN.out.new nvv)
          have NVV := Lib.hid (N4.out.trans nvv)
          have PV5 := Lib.hid (NVV.out.cell P52.out)
          have kS := nvv.cell dS4
          have k0 := nvv.cell g04
          have k1 := nvv.cell g14
          clear hvv nvv dS4 g04 g14 c3 e0 e1 e2 e3 e4
          go_cut [11] (fun p W => ∃ (c' : Int) (vp3 : Value) (P3 St3 : Nat → Value), p = .int .i64 c' ∧ Stp kf w0 W B base mb (.slice aa n ca) (gone S L k ps (j + 1)) k vp3 vl lay P3 St3 sn sxs ∧ Keeps vv W B [vp2, vl, blkV mb, St2 k] [vp3, vl, blkV mb, St3 k] ∧ St3 k = St2 k)
          case first =>
            cases t'
            case true =>
              have HG := Lib.hid (show gone S L k ps (j + 1) = M from by
                rw [EG.out]
                unfold addN
                have hMk : (M[k]?.getD dN).h = H := by rw [prefix_get PF.out (by have := HN.out; omega)]; exact HH.out.symm
                rw [hMk]
                show (if nHas M (poured S H f t) = true then M else _) = M
                rw [← NX.out, ← HT'.out, if_pos rfl])
              go_wp2_with fail
              go_meet
              exact ⟨c, vp2, P2, St2, rfl, by rw [HG.out]; exact SV.out, Keeps.refl _ _ _, rfl⟩
            case false =>
              have hMk : (M[k]?.getD dN).h = H := by rw [prefix_get PF.out (by have := HN.out; omega)]; exact HH.out.symm
              have HG := Lib.hid (show gone S L k ps (j + 1) = M ++ [⟨nx, (k : Int), (f, t), (M[k]?.getD dN).far + 1⟩] from by
                rw [EG.out]
                unfold addN nextN
                rw [hMk]
                show (if nHas M (poured S H f t) = true then M else M ++ [⟨poured S H f t, _, _, _⟩]) = _
                rw [← NX.out, ← HT'.out, if_neg (by decide)])
              have HW := Lib.hid (show wayN M k = wayN L k from wayN_prefix FD.out PF.out (by have := HN.out; omega))
              have PVV := Lib.hid ((show ∀ m, m = (wayN L k).length → vv.ownsRow base 77 2 (.slice po m pc) (wayN L k).length (flat (wayN L k)) from fun m e => by
                subst e
                have q := ((PL0.out k (by have := HN.out; omega)).keep KP.out).1
                rw [HP.out] at q
                exact ownsRow_new q NVV.out) pn PN.out)
              have FH := Lib.hid (SP.out.fresh (b := hb10) (by have := K3.out.size; omega)).three
              have FP := Lib.hid FB2.out.three
              have FW := Lib.hid (SP.out.fresh (b := wr.heap.size) (Nat.le_refl _)).three
              obtain ⟨f0, f1, f2, f3, f4⟩ := BV.out.five
              have d0 : vv.drew.cell? ⟨hb10, 0, none⟩ = some (.int .i64 (nx[0]?.getD 0)) := f0
              have d1 : vv.drew.cell? ⟨hb10, 1, none⟩ = some (.int .i64 (nx[1]?.getD 0)) := f1
              have d2 : vv.drew.cell? ⟨hb10, 2, none⟩ = some (.int .i64 (nx[2]?.getD 0)) := f2
              have d3 : vv.drew.cell? ⟨hb10, 3, none⟩ = some (.int .i64 (nx[3]?.getD 0)) := f3
              have d4 : vv.drew.cell? ⟨hb10, 4, none⟩ = some (.int .i64 (nx[4]?.getD 0)) := f4
              have d5 : vv.drew.cell? ⟨w.heap.size, 5, none⟩ = some (.slice po pn pc) := PV5.out
              have d6 : vv.drew.cell? ⟨wr.heap.size, 0, none⟩ = some (.int .i64 f) := k0
              have d7 : vv.drew.cell? ⟨wr.heap.size, 1, none⟩ = some (.int .i64 t) := k1
              clear hMk f0 f1 f2 f3 f4 k0 k1 kS
              have wl : (wayN L k).length ≤ 5000 := by have := WS.out; omega
              have WL := Lib.hid wl; clear wl
              have HT5 := Lib.hid (show M.length ≤ 5000 by have := HT.out; omega)
              go_upto_region 9 with fail
              go_region_held3 (fun w' => w'.cell? ⟨hb10, 0, none⟩ = some (.int .i64 (nx[0]?.getD 0)) ∧ w'.cell? ⟨hb10, 1, none⟩ = some (.int .i64 (nx[1]?.getD 0)) ∧ w'.cell? ⟨hb10, 2, none⟩ = some (.int .i64 (nx[2]?.getD 0)) ∧ w'.cell? ⟨hb10, 3, none⟩ = some (.int .i64 (nx[3]?.getD 0)) ∧ w'.cell? ⟨hb10, 4, none⟩ = some (.int .i64 (nx[4]?.getD 0)) ∧ w'.cell? ⟨w.heap.size, 5, none⟩ = some (.slice po pn pc) ∧ w'.cell? ⟨wr.heap.size, 0, none⟩ = some (.int .i64 f) ∧ w'.cell? ⟨wr.heap.size, 1, none⟩ = some (.int .i64 t))
                (first | with_reducible exact ⟨d0, d1, d2, d3, d4, d5, d6, d7⟩ | with_reducible exact ⟨r0', r1', r2', r3', r4', r5', r6', r7'⟩ | with_reducible exact ⟨y0, y1, y2, y3, y4, y5, y6, y7⟩ | (trace_state; fail))
                (first
                  | (go_at_call 80; refine (longer_any _ base (wayN L k) (.slice po pn pc) f t (ownsRow_new PVV.out (by repeat (first | with_reducible exact New.refl _ | with_reducible assumption | refine New.drewN ?_ _ | refine New.drew ?_ | refine New.alloc ?_ _ | refine New.setCell ?_ (by first | omega | (simp; omega) | (simp; done)) _ | (refine New.trans ?_ (by assumption))))) WL.out).mono ?_; rintro e w5 ⟨v5, rfl, ho5, n5⟩; obtain ⟨qo, qc, hq⟩ := own_slice ho5; subst hq; have r0' : w5.cell? ⟨hb10, 0, none⟩ = some (.int .i64 (nx[0]?.getD 0)) := n5.cell d0; have r1' : w5.cell? ⟨hb10, 1, none⟩ = some (.int .i64 (nx[1]?.getD 0)) := n5.cell d1; have r2' : w5.cell? ⟨hb10, 2, none⟩ = some (.int .i64 (nx[2]?.getD 0)) := n5.cell d2; have r3' : w5.cell? ⟨hb10, 3, none⟩ = some (.int .i64 (nx[3]?.getD 0)) := n5.cell d3; have r4' : w5.cell? ⟨hb10, 4, none⟩ = some (.int .i64 (nx[4]?.getD 0)) := n5.cell d4; have r5' : w5.cell? ⟨w.heap.size, 5, none⟩ = some (.slice po pn pc) := n5.cell d5; have r6' : w5.cell? ⟨wr.heap.size, 0, none⟩ = some (.int .i64 f) := n5.cell d6; have r7' : w5.cell? ⟨wr.heap.size, 1, none⟩ = some (.int .i64 t) := n5.cell d7)
                  | (go_at_call 55; refine (add_any kf KF w0 _ B base mb (.slice aa n ca) S H0 M vp2 vl lay P2 St2 ⟨nx, (k : Int), (f, t), (M[k]?.getD dN).far + 1⟩ qo _ qc (SV.out.sr.newer (New.undrew n5)) (Or.inr FM.out) GX.out HT'.out.symm HT5.out).mono ?_; rintro e w6 ⟨rfl, g, cap, sr6, kp6⟩; have y0 : w6.cell? ⟨hb10, 0, none⟩ = some (.int .i64 (nx[0]?.getD 0)) := (kp6 []).cell (p := ⟨hb10, 0, none⟩) FH.out r0'; have y1 : w6.cell? ⟨hb10, 1, none⟩ = some (.int .i64 (nx[1]?.getD 0)) := (kp6 []).cell (p := ⟨hb10, 1, none⟩) FH.out r1'; have y2 : w6.cell? ⟨hb10, 2, none⟩ = some (.int .i64 (nx[2]?.getD 0)) := (kp6 []).cell (p := ⟨hb10, 2, none⟩) FH.out r2'; have y3 : w6.cell? ⟨hb10, 3, none⟩ = some (.int .i64 (nx[3]?.getD 0)) := (kp6 []).cell (p := ⟨hb10, 3, none⟩) FH.out r3'; have y4 : w6.cell? ⟨hb10, 4, none⟩ = some (.int .i64 (nx[4]?.getD 0)) := (kp6 []).cell (p := ⟨hb10, 4, none⟩) FH.out r4'; have y5 : w6.cell? ⟨w.heap.size, 5, none⟩ = some (.slice po pn pc) := (kp6 []).cell (p := ⟨w.heap.size, 5, none⟩) FP.out r5'; have y6 : w6.cell? ⟨wr.heap.size, 0, none⟩ = some (.int .i64 f) := (kp6 []).cell (p := ⟨wr.heap.size, 0, none⟩) FW.out r6'; have y7 : w6.cell? ⟨wr.heap.size, 1, none⟩ = some (.int .i64 t) := (kp6 []).cell (p := ⟨wr.heap.size, 1, none⟩) FW.out r7'))
              go_wp2_with fail
              go_meet
              obtain ⟨a1, a2, a3⟩ := Stp.added (x := ⟨nx, (k : Int), (f, t), (M[k]?.getD dN).far + 1⟩) SV.out FM.out (by have := HT.out; omega) rfl (New.undrew n5) (by rw [HW.out, List.length_append]; exact ho5) sr6 kp6
              exact ⟨_, _, _, _, rfl, by rw [HG.out]; exact a1, a2, a3⟩
          case rest =>
            obtain ⟨c', vp3, P3, St3, rfl, hs3, hk3, he3⟩ := hcut
            obtain ⟨w7, rfl⟩ : ∃ u : World, u = wc := ⟨_, rfl⟩
            have S7 := Lib.hid hs3
            have FW4 := Lib.hid (SP.out.fresh (b := wr.heap.size) (Nat.le_refl _))
            have m0 := hk3.cell (p := ⟨wr.heap.size, 0, none⟩) FW4.out k0
            have m1 := hk3.cell (p := ⟨wr.heap.size, 1, none⟩) FW4.out k1
            have KV := Lib.hid ((KP.out.trans (Keeps.of_new NVV.out)).trans hk3)
            clear hs3 hk3 he3 k0 k1 kS
            go_upto_region 11 with fail
            obtain ⟨v8, hv8⟩ : ∃ v, v = w7.alloc (.cells #[.int .i64 f, .int .i64 t, .int .i64 0, .int .i64 c'] 99) := ⟨_, rfl⟩
            rw [← hv8]
            have nv8 : New w7 v8 := by rw [hv8]; exact (by repeat (first | with_reducible exact New.refl _ | with_reducible assumption | refine New.drewN ?_ _ | refine New.drew ?_ | refine New.alloc ?_ _ | refine New.setCell ?_ (by first | omega | (simp; omega) | (simp; done)) _ | (refine New.trans ?_ (by assumption))))
            have p0 : v8.cell? ⟨w7.heap.size, 0, none⟩ = some (.int .i64 f) := by rw [hv8]; simp [go_sem]
            have p1 : v8.cell? ⟨w7.heap.size, 1, none⟩ = some (.int .i64 t) := by rw [hv8]; simp [go_sem]
            have p2 : v8.cell? ⟨w7.heap.size, 2, none⟩ = some (.int .i64 0) := by rw [hv8]; simp [go_sem]
            have p3 : v8.cell? ⟨w7.heap.size, 3, none⟩ = some (.int .i64 c') := by rw [hv8]; simp [go_sem]
            have pf : v8.frozen? ⟨w7.heap.size, 2, none⟩ = false := by rw [hv8]; simp [go_sem]
            have z8 : v8.heap.size = w7.heap.size + 1 := by rw [hv8]; simp
            have Z8 := Lib.hid z8
            have N8 := Lib.hid nv8
            replace m0 := nv8.cell m0
            clear hv8 nv8 z8 m1
            go_upto_if 68 with fail
            clear m0
            go_cut [13] (fun p W => p = .pointer (some ⟨w7.heap.size, 0, none⟩) ∧ ∃ z : Int, W.cell? ⟨w7.heap.size, 0, none⟩ = some (.int .i64 f) ∧ W.cell? ⟨w7.heap.size, 1, none⟩ = some (.int .i64 t) ∧ W.cell? ⟨w7.heap.size, 2, none⟩ = some (.int .i64 z) ∧ W.cell? ⟨w7.heap.size, 3, none⟩ = some (.int .i64 c') ∧ New w7 W)
            case first =>
              by_cases hf1 : f = -1
              · have hq1 : (f == -1) = true := by simpa using hf1
                go_wp2_with fail
                go_meet
                exact ⟨rfl, am, by rw [set_other (by simp)]; exact p0, by rw [set_other (by simp)]; exact p1, set_same p2, by rw [set_other (by simp)]; exact p3, N8.out.setCell (Nat.le_refl _) _⟩
              · have hq1 : (f == -1) = false := by simpa using hf1
                go_wp2_with fail
                go_meet
                exact ⟨rfl, 0, p0, p1, p2, p3, N8.out⟩
            case rest =>
              obtain ⟨rfl, z, r0, r1, r2, r3, hn9⟩ := hcut
              obtain ⟨w9, rfl⟩ : ∃ u : World, u = wc := ⟨_, rfl⟩
              have S9 := Lib.hid (S7.out.newer hn9)
              have K9 := Lib.hid (KV.out.trans (Keeps.of_new hn9))
              clear p0 p1 p2 p3 pf hn9
              have kM : k < (gone S L k ps (j + 1)).length := Nat.lt_of_lt_of_le (show k < L.length by have := HN.out; omega) (gone_prefix S L k ps (j + 1)).length_le
              obtain ⟨M3, hM3⟩ : ∃ M3, M3 = gone S L k ps (j + 1) := ⟨_, rfl⟩
              rw [← hM3] at kM S9
              have LT7 := Lib.hid (show ∀ b, (St3 k).ownBlock = some b → b < w7.heap.size from fun b e => (S7.out.own.lt b e).2)
              have LV7 := Lib.hid (show ∀ b, vp3.ownBlock = some b → b < w7.heap.size from fun b e => ((S7.out.sr.box.own (q1 vp3 (gone S L k ps (j + 1)) P3 St3) (by simp)).lt b e).2)
              have EM3 := Lib.hid hM3; clear hM3 S7
              obtain ⟨g3, cp3, e3, c1, _, hr3, f6⟩ := S9.out.sr.at kM
              subst e3
              obtain ⟨so, scap, hso⟩ := own_slice S9.out.own
              have s6 := hr3 6 _ rfl
              rw [hso] at s6
              have OWS := Lib.hid (show w9.ownsRow base 99 4 (.slice so sn scap) sn sxs from by have q := S9.out.own; rw [hso] at q; exact q)
              have SB := Lib.hid (show some B ≠ (Value.slice so sn scap).ownBlock from fun e => (S9.out.far B (by rw [hso]; exact e.symm)).1 rfl)
              have SG := Lib.hid (show some g3 ≠ (Value.slice so sn scap).ownBlock from fun e => (S9.out.far g3 (by rw [hso]; exact e.symm)).2 (.slice (some ⟨g3, 0, none⟩) M3.length cp3) (by simp) rfl)
              have SN := Lib.hid (show some w7.heap.size ≠ (Value.slice so sn scap).ownBlock from fun e => by have := LT7.out _ (by rw [hso]; exact e.symm); omega)
              have HSO := Lib.hid hso
              have KM := Lib.hid kM
              obtain ⟨T3, hT3⟩ : ∃ T3, T3 = M3.length := ⟨_, rfl⟩
              rw [← hT3] at c1
              have kI3 : (k : Int) < (T3 : Int) := by omega
              have HT3 := Lib.hid hT3
              have blo := S9.out.sr.blo
              have zB9 : B < w9.heap.size := World.block_lt_of_cell? _ _ c1
              have zg9 : g3 < w9.heap.size := World.block_lt_of_cell? _ _ s6
              have zn9 : w7.heap.size < w9.heap.size := World.block_lt_of_cell? _ _ r0
              have sn42 : sn ≤ 42 := by omega
              clear hT3 hso hr3 kM
              obtain ⟨i1, hj1, hy0, hy1, hy2⟩ := info_parts Try.infoStep
              go_upto_region 13 with fail
              have gB3 := Lib.hid (show g3 ≠ B from fun e => S9.out.sr.box.nb (q1 (.slice (some ⟨g3, 0, none⟩) M3.length cp3) M3 P3 St3) (by simp) (by show some g3 = some B; rw [e]))
              have gN3 := Lib.hid (show g3 ≠ w7.heap.size from by have := LV7.out g3 rfl; omega)
              have gB3' := gB3.out
              have gN3' := gN3.out
              have e0 : w9.drew.cell? ⟨B, 1, none⟩ = some (.slice (some ⟨g3, 0, none⟩) T3 cp3) := c1
              have e1 : w9.drew.cell? ⟨w7.heap.size, 0, none⟩ = some (.int .i64 f) := r0
              have e2 : w9.drew.cell? ⟨w7.heap.size, 1, none⟩ = some (.int .i64 t) := r1
              have e3 : w9.drew.cell? ⟨w7.heap.size, 2, none⟩ = some (.int .i64 z) := r2
              have e4 : w9.drew.cell? ⟨w7.heap.size, 3, none⟩ = some (.int .i64 c') := r3
              go_region_law (refine step_append_lies _ (by rfl) (.tmp 83) (.tmp 85) 68 (by rfl) base 99 i1 _ 4 32 Try.underlying68 hj1 hy0 hy1 hy2 rfl (by decide) (.slice so sn scap) sn _ (by rfl) (ownsRow_new OWS.out (by repeat (first | with_reducible exact New.refl _ | with_reducible assumption | refine New.drewN ?_ _ | refine New.drew ?_ | refine New.alloc ?_ _ | refine New.setCell ?_ (by first | omega | (simp; omega) | (simp; done)) _ | (refine New.trans ?_ (by assumption))))) _ _ _ [.int .i64 f, .int .i64 t, .int .i64 z, .int .i64 c'] (by rfl) (by rfl) (World.news_of_block (cs := #[.int .i64 f, .int .i64 t, .int .i64 z, .int .i64 c']) (t := 99) (fr := (0, 0)) (heap_alloc_new _ _)) (by simp [Value.oneCell']) (by omega) (by unfold maxLen; omega) (by omega) (by simp; omega) _ rfl ?_; intro g cap w' ho hg hb' hlt'; have s7 := hg.cell (New.cell (by repeat (first | with_reducible exact New.refl _ | with_reducible assumption | refine New.drewN ?_ _ | refine New.drew ?_ | refine New.alloc ?_ _ | refine New.setCell ?_ (by first | omega | (simp; omega) | (simp; done)) _ | (refine New.trans ?_ (by assumption)))) s6) SG.out; have s8 := (hg.frozen_far ⟨g3, k * 7 + 6, none⟩ (by simp; omega) SG.out).trans (New.frz (w := w9) (by repeat (first | with_reducible exact New.refl _ | with_reducible assumption | refine New.drewN ?_ _ | refine New.drew ?_ | refine New.alloc ?_ _ | refine New.setCell ?_ (by first | omega | (simp; omega) | (simp; done)) _ | (refine New.trans ?_ (by assumption)))) s6 f6); have y0 : w'.cell? ⟨B, 1, none⟩ = some (.slice (some ⟨g3, 0, none⟩) T3 cp3) := hg.cell (New.cell (by repeat (first | with_reducible exact New.refl _ | with_reducible assumption | refine New.drewN ?_ _ | refine New.drew ?_ | refine New.alloc ?_ _ | refine New.setCell ?_ (by first | omega | (simp; omega) | (simp; done)) _ | (refine New.trans ?_ (by assumption)))) c1) SB.out; have y1 : w'.cell? ⟨w7.heap.size, 0, none⟩ = some (.int .i64 f) := hg.cell (New.cell (by repeat (first | with_reducible exact New.refl _ | with_reducible assumption | refine New.drewN ?_ _ | refine New.drew ?_ | refine New.alloc ?_ _ | refine New.setCell ?_ (by first | omega | (simp; omega) | (simp; done)) _ | (refine New.trans ?_ (by assumption)))) r0) SN.out; have y2 : w'.cell? ⟨w7.heap.size, 1, none⟩ = some (.int .i64 t) := hg.cell (New.cell (by repeat (first | with_reducible exact New.refl _ | with_reducible assumption | refine New.drewN ?_ _ | refine New.drew ?_ | refine New.alloc ?_ _ | refine New.setCell ?_ (by first | omega | (simp; omega) | (simp; done)) _ | (refine New.trans ?_ (by assumption)))) r1) SN.out; have y3 : w'.cell? ⟨w7.heap.size, 2, none⟩ = some (.int .i64 z) := hg.cell (New.cell (by repeat (first | with_reducible exact New.refl _ | with_reducible assumption | refine New.drewN ?_ _ | refine New.drew ?_ | refine New.alloc ?_ _ | refine New.setCell ?_ (by first | omega | (simp; omega) | (simp; done)) _ | (refine New.trans ?_ (by assumption)))) r2) SN.out; have y4 : w'.cell? ⟨w7.heap.size, 3, none⟩ = some (.int .i64 c') := hg.cell (New.cell (by repeat (first | with_reducible exact New.refl _ | with_reducible assumption | refine New.drewN ?_ _ | refine New.drew ?_ | refine New.alloc ?_ _ | refine New.setCell ?_ (by first | omega | (simp; omega) | (simp; done)) _ | (refine New.trans ?_ (by assumption)))) r3) SN.out)
              all_goals
                obtain ⟨a1, a2⟩ := Stp.stepped (wA := (w9.alloc (.cells #[.int .i64 f, .int .i64 t, .int .i64 z, .int .i64 c'] 99)).drew) S9.out KM.out (by repeat (first | with_reducible exact New.refl _ | with_reducible assumption | refine New.drewN ?_ _ | refine New.drew ?_ | refine New.alloc ?_ _ | refine New.setCell ?_ (by first | omega | (simp; omega) | (simp; done)) _ | (refine New.trans ?_ (by assumption)))) ho (by rw [HSO.out]; exact hg) (by rw [HSO.out]; exact hb')
                have A1 := Lib.hid a1
                have A2 := Lib.hid a2
                clear a1 a2 ho hg hb' hlt' s7 s8 c1 s6 f6 r0 r1 r2 r3
                go_wp2
                go_roundw
                case rel =>
                  refine ⟨j + 1, _, _, _, sn + 1, _, by go_num, by omega, by omega, by rw [← EM3.out]; exact A1.out, ?_⟩
                  have q := K9.out.trans A2.out
                  show Keeps _ _ _ _ [_, _, _, if k = k then _ else _]
                  rw [if_pos rfl]
                  exact q
                case measure => simp [intOf]; omega
    · obtain rfl : j = mn := by omega
      have EE := Lib.hid (show goN S cl L k = M from by
        rw [EM.out, PS.out]
        exact (gone_all (by rw [← PS.out]; have := ML.out; omega)).symm)
      go_wp2
      go_end0
      refine ⟨rfl, vp2, P2, St2, by rw [EE.out]; exact SP.out.sr, fun i hi => ?_, fun i h1 h2 => SP.out.rest i h1 (by rw [← EE.out]; exact h2), fun i h2 => SP.out.sl i (by rw [← EE.out]; exact h2), ?_⟩
      · rw [EE.out] at hi ⊢
        exact (SP.out.pl i hi).keep ((Keeps.refl _ _ _).widen fun u hu => by
          simp only [List.mem_cons, List.not_mem_nil, or_false] at hu ⊢
          rcases hu with h | h | h
          · exact .inl (.inl h)
          · exact .inl (.inr (.inl h))
          · exact .inl (.inr (.inr (.inl h))))
      · rw [← HVP.out]
        exact ((Keeps.of_new NV.out).trans KP.out).widen fun u hu => by
          simp only [List.mem_cons, List.not_mem_nil, or_false] at hu ⊢
          rcases hu with h | h | h
          · exact .inl (.inl h)
          · exact .inl (.inr (.inl h))
          · exact .inl (.inr (.inr (.inl h)))
end Go.Proofs.Ytilepckgcgdjgaa
