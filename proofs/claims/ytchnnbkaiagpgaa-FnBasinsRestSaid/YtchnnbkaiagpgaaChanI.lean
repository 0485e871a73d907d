/- What the program puts on its two channels, and takes from both. -/
import Derived.Test.YtchnnbkaiagpgaaChan
namespace Go.Proofs.Ytchnnbkaiagpgaa
open Go.Conc Go.RowKit

/-- A channel with room for one, open, holds b. -/
def Ch (w : World) (c : Nat) (b : Array Value) : Prop := ∃ s r, w.heap[c]? = some (.chan 1 b false s r false)
theorem Ch.lt {w : World} {c : Nat} {b : Array Value} (h : Ch w c b) : c < w.heap.size := by
  obtain ⟨s, r, h⟩ := h
  exact (Array.getElem?_eq_some_iff.1 h).1
theorem Ch.new {w w' : World} {c : Nat} {b : Array Value} (h : Ch w c b) (k : New w w') : Ch w' c b := by
  have hl := h.lt
  obtain ⟨s, r, h⟩ := h
  exact ⟨s, r, (k.block c hl).trans h⟩
theorem Ch.chg {P : Nat → Prop} {w w' : World} {c : Nat} {b : Array Value} (h : Ch w c b) (k : Chg P w w') (hp : ¬ P c) : Ch w' c b := by
  have hl := h.lt
  obtain ⟨s, r, h⟩ := h
  exact ⟨s, r, (k.block c hl hp).trans h⟩
theorem heap_setChan_other (w : World) (c c' cap : Nat) (buf : Array Value) (closed : Bool) (s r : Nat) (tm : Bool) (h : c ≠ c') : (w.setChan c cap buf closed s r tm).heap[c']? = w.heap[c']? := by
  simp [World.setChan, Array.getElem?_setIfInBounds_ne h]
theorem Chg.setChan (w : World) (c cap : Nat) (buf : Array Value) (closed : Bool) (s r : Nat) (tm : Bool) : Chg (fun b => b = c) w (w.setChan c cap buf closed s r tm) :=
  ⟨rfl, rfl, rfl, by simp [World.setChan], fun k _ h => heap_setChan_other _ _ _ _ _ _ _ _ _ (fun e => h e.symm)⟩
abbrev pasV (c d : Nat) : Value := .agg #[.chan (some c), .chan (some d)]

theorem res_rr0 (a b : Nat) (z z' v : Value) (ok : Bool) : commResult #[rcase a z, rcase b z'] .select ((0 : Nat) : Int) v ok = .tuple #[goInt 0, .bool ok, v, z'] := by
  simp [commResult, rcase, List.zipIdx_cons]
theorem res_rr1 (a b : Nat) (z z' v : Value) (ok : Bool) : commResult #[rcase a z, rcase b z'] .select ((1 : Nat) : Int) v ok = .tuple #[goInt 1, .bool ok, z, v] := by
  simp [commResult, rcase, List.zipIdx_cons]

set_option maxRecDepth 100000 in
theorem handOn_any (w : World) (c d : Nat) (x y : Int) (hc : Ch w c #[]) (hd : Ch w d #[]) (hne : c ≠ d) :
    Calls Try.prog 77 #[pasV c d, .int .i64 x, .int .i64 y] w fun e w' => e = .returned (.tuple #[]) ∧ Ch w' c #[.int .i64 x] ∧ Ch w' d #[.int .i64 y] ∧ Chg (fun b => b = c ∨ b = d) w w' := by
  have hcl := hc.lt
  have hdl := hd.lt
  obtain ⟨s, r, hc⟩ := hc
  obtain ⟨s', r', hd⟩ := hd
  refine calls_of_loneTo fun cs => ?_
  have e : Frame.enter Try.prog 77 #[pasV c d, .int .i64 x, .int .i64 y] .normal = (base 77).at ⟨#[pasV c d, .int .i64 x, .int .i64 y, undef, undef, undef, undef, undef, undef, undef, undef, undef], []⟩ [.code (Try.f77.body.getD .skip)] := by
    simp [Frame.enter, Frame.at, Try.func77, base, Try.f77]
  rw [e]
  refine LoneTo.goes (n := 60) ?_
  simp only [Try.f77, Option.getD_some]
  repeat (first | s_c stepG_seq | s_c stepG_skip | s_c stepG_block | s_c stepG_loop | s_c stepG_inLoop | s_c stepG_inBlock | s_c stepG_region_end | s_c stepG_label | s_reg | s_op | s_cond true | s_cond false)
  s_stop
  obtain ⟨w1, hw1⟩ : ∃ w1, w1 = w.alloc (.cells #[.chan (some c), .chan (some d)] 100) := ⟨_, rfl⟩
  rw [← hw1]
  have n1 : New w w1 := by rw [hw1]; exact (by repeat (first | with_reducible exact New.refl _ | with_reducible assumption | refine New.drewN ?_ _ | refine New.drew ?_ | refine New.alloc ?_ _ | refine New.setCell ?_ (by first | omega | (simp; omega) | (simp; done)) _ | (refine New.trans ?_ (by assumption))))
  have hc1 := (n1.block c hcl).trans hc
  have hd1 := (n1.block d hdl).trans hd
  have b1 : w1.cell? ⟨w.heap.size, 1, none⟩ = some (.chan (some d)) := by rw [hw1]; simp
  have b0 : w1.cell? ⟨w.heap.size, 0, none⟩ = some (.chan (some c)) := by rw [hw1]; simp
  have z1 := n1.size
  clear hw1
  refine LoneTo.step (step_lone_send_room (c := c) (cap := 1) (v := .int .i64 x) (z' := .tuple #[]) (buf := #[]) (s := s) (r := r) (tm := false) (stepG_comm (cases := #[scase c (.int .i64 x) (.tuple #[])]) (blocking := true) (shape := .send) (w' := w1) rfl rfl (by decide) (by simp [go_sem, execOp, scase, Act.eval])) hc1 (by simp)) ?_
  obtain ⟨w2, hw2⟩ : ∃ w2, w2 = w1.setChan c 1 ((#[] : Array Value).push (.int .i64 x)) false (s + 1) r false := ⟨_, rfl⟩
  rw [← hw2]
  have g2 : Chg (fun b => b = c) w1 w2 := by rw [hw2]; exact Chg.setChan _ _ _ _ _ _ _ _
  have hc2 : w2.heap[c]? = some (.chan 1 #[.int .i64 x] false (s + 1) r false) := by rw [hw2]; exact heap_setChan _ _ _ _ _ _ _ _ (by omega)
  have hd2 := (g2.block d (by omega) (fun e => hne e.symm)).trans hd1
  have b2 : w2.cell? ⟨w.heap.size, 1, none⟩ = some (.chan (some d)) := g2.cell b1 (by simp; omega)
  have z2 := g2.size
  clear hw2
  rw [Frame.finish_at]
  walk_nrm
  refine LoneTo.goes (n := 60) ?_
  repeat (first | s_c stepG_seq | s_c stepG_skip | s_c stepG_block | s_c stepG_loop | s_c stepG_inLoop | s_c stepG_inBlock | s_c stepG_region_end | s_c stepG_label | s_reg | s_op | s_cond true | s_cond false)
  s_stop
  refine LoneTo.step (step_lone_send_room (c := d) (cap := 1) (v := .int .i64 y) (z' := .tuple #[]) (buf := #[]) (s := s') (r := r') (tm := false) (stepG_comm (cases := #[scase d (.int .i64 y) (.tuple #[])]) (blocking := true) (shape := .send) (w' := w2) rfl rfl (by decide) (by simp [go_sem, execOp, scase, Act.eval])) hd2 (by simp)) ?_
  obtain ⟨w3, hw3⟩ : ∃ w3, w3 = w2.setChan d 1 ((#[] : Array Value).push (.int .i64 y)) false (s' + 1) r' false := ⟨_, rfl⟩
  rw [← hw3]
  have g3 : Chg (fun b => b = d) w2 w3 := by rw [hw3]; exact Chg.setChan _ _ _ _ _ _ _ _
  have hd3 : w3.heap[d]? = some (.chan 1 #[.int .i64 y] false (s' + 1) r' false) := by rw [hw3]; exact heap_setChan _ _ _ _ _ _ _ _ (by omega)
  have hc3 := (g3.block c (by omega) hne).trans hc2
  clear hw3
  rw [Frame.finish_at]
  walk_nrm
  refine LoneTo.goes (n := 60) ?_
  repeat (first | s_c stepG_seq | s_c stepG_skip | s_c stepG_block | s_c stepG_loop | s_c stepG_inLoop | s_c stepG_inBlock | s_c stepG_region_end | s_c stepG_label | s_reg | s_op | s_cond true | s_cond false)
  s_c stepG_end
  s_stop
  refine LoneTo.done ⟨.returned (.tuple #[]), _, rfl, ⟨rfl, ⟨_, _, hc3⟩, ⟨_, _, hd3⟩, (Chg.of_new n1).trans ((g2.mono fun b e => .inl e).trans (g3.mono fun b e => .inr e))⟩, rfl, rfl, rfl, rfl, _, Try.func77, by simp [results, Try.f77, Frame.at]⟩

set_option maxRecDepth 100000 in
theorem takeIn_any (w : World) (c d : Nat) (x y : Int) (hc : Ch w c #[.int .i64 x]) (hd : Ch w d #[.int .i64 y]) (hne : c ≠ d) (x0 : 0 ≤ x) (x1 : x ≤ 1000000) (y0 : 0 ≤ y) (y1 : y ≤ 1000000) :
    Calls Try.prog 78 #[pasV c d] w fun e w' => e = .returned (.int .i64 (x + y)) ∧ Ch w' c #[] ∧ Ch w' d #[] ∧ Chg (fun b => b = c ∨ b = d) w w' := by
  have hcl := hc.lt
  have hdl := hd.lt
  obtain ⟨s, r, hc⟩ := hc
  obtain ⟨s', r', hd⟩ := hd
  refine calls_of_loneTo fun cs => ?_
  have e : Frame.enter Try.prog 78 #[pasV c d] .normal = (base 78).at ⟨#[pasV c d, undef, undef, undef, undef, undef, undef, undef, undef, undef, undef, undef, undef, undef, undef, undef, undef, undef, undef, undef, undef, undef, undef, undef, undef, undef], []⟩ [.code (Try.f78.body.getD .skip)] := by
    simp [Frame.enter, Frame.at, Try.func78, base, Try.f78]
  rw [e]
  refine LoneTo.goes (n := 90) ?_
  simp only [Try.f78, Option.getD_some]
  repeat (first | s_c stepG_seq | s_c stepG_skip | s_c stepG_block | s_c stepG_loop | s_c stepG_inLoop | s_c stepG_inBlock | s_c stepG_region_end | s_c stepG_label | s_reg | s_op | s_cond true | s_cond false)
  s_stop
  obtain ⟨w1, hw1⟩ : ∃ w1, w1 = w.alloc (.cells #[.chan (some c), .chan (some d)] 100) := ⟨_, rfl⟩
  rw [← hw1]
  have n1 : New w w1 := by rw [hw1]; exact (by repeat (first | with_reducible exact New.refl _ | with_reducible assumption | refine New.drewN ?_ _ | refine New.drew ?_ | refine New.alloc ?_ _ | refine New.setCell ?_ (by first | omega | (simp; omega) | (simp; done)) _ | (refine New.trans ?_ (by assumption))))
  have hc1 := (n1.block c hcl).trans hc
  have hd1 := (n1.block d hdl).trans hd
  have b1 : w1.cell? ⟨w.heap.size, 1, none⟩ = some (.chan (some d)) := by rw [hw1]; simp
  have b0 : w1.cell? ⟨w.heap.size, 0, none⟩ = some (.chan (some c)) := by rw [hw1]; simp
  have z1 := n1.size
  clear hw1
  refine LoneTo.either (stepG_comm (cases := #[rcase c (.int .i64 0), rcase d (.int .i64 0)]) (blocking := true) (shape := .select) (w' := w1) rfl rfl (by decide) (by simp [go_sem, execOp, rcase, Act.eval])) hc1 hd1 ?_ ?_
  · obtain ⟨w2, hw2⟩ : ∃ w2, w2 = w1.drew.setChan c 1 #[] false s (r + 1) false := ⟨_, rfl⟩
    rw [← hw2]
    have g2 : Chg (fun b => b = c) w1 w2 := by
      rw [hw2]
      exact (Chg.of_new (P := fun b => b = c) (New.drew (New.refl w1))).trans (Chg.setChan _ _ _ _ _ _ _ _)
    have ha2 : w2.heap[c]? = some (.chan 1 #[] false s (r + 1) false) := by rw [hw2]; exact heap_setChan _ _ _ _ _ _ _ _ (by show c < w1.heap.size; omega)
    have hb2 := (g2.block d (by omega) (fun e => hne e.symm)).trans hd1
    have p1 : w2.cell? ⟨w.heap.size, 1, none⟩ = some (.chan (some d)) := g2.cell b1 (by simp; omega)
    have p0 : w2.cell? ⟨w.heap.size, 0, none⟩ = some (.chan (some c)) := g2.cell b0 (by simp; omega)
    have z2 := g2.size
    clear hw2
    rw [Frame.finish_at, res_rr0]
    walk_nrm
    refine LoneTo.goes (n := 90) ?_
    repeat (first | s_c stepG_seq | s_c stepG_skip | s_c stepG_block | s_c stepG_loop | s_c stepG_inLoop | s_c stepG_inBlock | s_c stepG_region_end | s_c stepG_label | s_reg | s_op | s_cond true | s_cond false)
    s_stop
    refine LoneTo.step (step_lone_sel_recv_buf (k := 1) (c := d) (z := .int .i64 0) (cap := 1) (buf := #[.int .i64 y]) (closed := false) (s := s') (r := r') (tm := false)
      (stepG_comm (cases := #[rcase c (.int .i64 0), rcase d (.int .i64 0)]) (blocking := true) (shape := .select) (w' := w2) rfl rfl (by decide) (by simp [go_sem, execOp, rcase, Act.eval]))
      rfl (fun m c' hm hc' => ?_) hb2 (by simp)) ?_
    · rcases m with _ | _ | m
      · simp only [List.getElem?_toArray, List.getElem?_cons_zero, Option.some.injEq] at hc'
        subst hc'
        exact noWay_recv ha2
      · exact absurd rfl hm
      · simp at hc'
    obtain ⟨w3, hw3⟩ : ∃ w3, w3 = w2.setChan d 1 ((#[.int .i64 y] : Array Value).extract 1 (#[.int .i64 y] : Array Value).size) false s' (r' + 1) false := ⟨_, rfl⟩
    rw [← hw3]
    have g3 : Chg (fun b => b = d) w2 w3 := by rw [hw3]; exact Chg.setChan _ _ _ _ _ _ _ _
    have hb3 : w3.heap[d]? = some (.chan 1 #[] false s' (r' + 1) false) := by rw [hw3, heap_setChan _ _ _ _ _ _ _ _ (by omega)]; simp
    have ha3 := (g3.block c (by omega) (fun e => hne e)).trans ha2
    clear hw3
    rw [Frame.finish_at, res_rr1]
    walk_nrm
    refine LoneTo.goes (n := 90) ?_
    repeat (first | s_c stepG_seq | s_c stepG_skip | s_c stepG_block | s_c stepG_loop | s_c stepG_inLoop | s_c stepG_inBlock | s_c stepG_region_end | s_c stepG_label | s_reg | s_op | s_cond true | s_cond false)
    repeat (first | s_exit | s_c stepG_seq | s_c stepG_skip | s_c stepG_block | s_c stepG_loop | s_c stepG_inLoop | s_c stepG_inBlock | s_c stepG_region_end | s_c stepG_label | s_reg | s_op | s_cond true | s_cond false)
    s_c stepG_ret'
    s_stop
    refine LoneTo.done ⟨.returned (.int .i64 (x + y)), _, rfl, ⟨rfl, ⟨_, _, ha3⟩, ⟨_, _, hb3⟩, (Chg.of_new n1).trans ((g2.mono fun b e => .inl e).trans (g3.mono fun b e => .inr e))⟩, rfl, rfl, rfl, rfl, _, Try.func78, ?_⟩
    have e1 : IntKind.i64.wrap x = x := IntWalk.i64_in _ (by omega)
    have e2 : IntKind.i64.wrap (x + y) = x + y := (IntWalk.i64_in _ (by omega)).trans (by omega)
    simp [results, Try.f78, Frame.at, e1, e2]
  · obtain ⟨w2, hw2⟩ : ∃ w2, w2 = w1.drew.setChan d 1 #[] false s' (r' + 1) false := ⟨_, rfl⟩
    rw [← hw2]
    have g2 : Chg (fun b => b = d) w1 w2 := by
      rw [hw2]
      exact (Chg.of_new (P := fun b => b = d) (New.drew (New.refl w1))).trans (Chg.setChan _ _ _ _ _ _ _ _)
    have ha2 : w2.heap[d]? = some (.chan 1 #[] false s' (r' + 1) false) := by rw [hw2]; exact heap_setChan _ _ _ _ _ _ _ _ (by show d < w1.heap.size; omega)
    have hb2 := (g2.block c (by omega) (fun e => hne e)).trans hc1
    have p1 : w2.cell? ⟨w.heap.size, 1, none⟩ = some (.chan (some d)) := g2.cell b1 (by simp; omega)
    have p0 : w2.cell? ⟨w.heap.size, 0, none⟩ = some (.chan (some c)) := g2.cell b0 (by simp; omega)
    have z2 := g2.size
    clear hw2
    rw [Frame.finish_at, res_rr1]
    walk_nrm
    refine LoneTo.goes (n := 90) ?_
    repeat (first | s_c stepG_seq | s_c stepG_skip | s_c stepG_block | s_c stepG_loop | s_c stepG_inLoop | s_c stepG_inBlock | s_c stepG_region_end | s_c stepG_label | s_reg | s_op | s_cond true | s_cond false)
    s_stop
    refine LoneTo.step (step_lone_sel_recv_buf (k := 0) (c := c) (z := .int .i64 0) (cap := 1) (buf := #[.int .i64 x]) (closed := false) (s := s) (r := r) (tm := false)
      (stepG_comm (cases := #[rcase c (.int .i64 0), rcase d (.int .i64 0)]) (blocking := true) (shape := .select) (w' := w2) rfl rfl (by decide) (by simp [go_sem, execOp, rcase, Act.eval]))
      rfl (fun m c' hm hc' => ?_) hb2 (by simp)) ?_
    · rcases m with _ | _ | m
      · exact absurd rfl hm
      · simp only [List.getElem?_toArray, List.getElem?_cons_succ, List.getElem?_cons_zero, Option.some.injEq] at hc'
        subst hc'
        exact noWay_recv ha2
      · simp at hc'
    obtain ⟨w3, hw3⟩ : ∃ w3, w3 = w2.setChan c 1 ((#[.int .i64 x] : Array Value).extract 1 (#[.int .i64 x] : Array Value).size) false s (r + 1) false := ⟨_, rfl⟩
    rw [← hw3]
    have g3 : Chg (fun b => b = c) w2 w3 := by rw [hw3]; exact Chg.setChan _ _ _ _ _ _ _ _
    have hb3 : w3.heap[c]? = some (.chan 1 #[] false s (r + 1) false) := by rw [hw3, heap_setChan _ _ _ _ _ _ _ _ (by omega)]; simp
    have ha3 := (g3.block d (by omega) (fun e => hne e.symm)).trans ha2
    clear hw3
    rw [Frame.finish_at, res_rr0]
    walk_nrm
    refine LoneTo.goes (n := 90) ?_
    repeat (first | s_c stepG_seq | s_c stepG_skip | s_c stepG_block | s_c stepG_loop | s_c stepG_inLoop | s_c stepG_inBlock | s_c stepG_region_end | s_c stepG_label | s_reg | s_op | s_cond true | s_cond false)
    repeat (first | s_exit | s_c stepG_seq | s_c stepG_skip | s_c stepG_block | s_c stepG_loop | s_c stepG_inLoop | s_c stepG_inBlock | s_c stepG_region_end | s_c stepG_label | s_reg | s_op | s_cond true | s_cond false)
    s_c stepG_ret'
    s_stop
    refine LoneTo.done ⟨.returned (.int .i64 (x + y)), _, rfl, ⟨rfl, ⟨_, _, hb3⟩, ⟨_, _, ha3⟩, (Chg.of_new n1).trans ((g2.mono fun b e => .inr e).trans (g3.mono fun b e => .inl e))⟩, rfl, rfl, rfl, rfl, _, Try.func78, ?_⟩
    have e1 : IntKind.i64.wrap y = y := IntWalk.i64_in _ (by omega)
    have e2 : IntKind.i64.wrap (y + x) = x + y := (IntWalk.i64_in _ (by omega)).trans (by omega)
    simp [results, Try.f78, Frame.at, e1, e2]
end Go.Proofs.Ytchnnbkaiagpgaa
