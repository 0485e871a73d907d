/- ClockAfter: the program's. -/
import Derived.Test.YtnahlemchajfdaaCa
import Derived.Test.YtnahlemchajfdaaLoi
import Derived.Test.YtnahlemchajfdaaTk6
namespace Go.Proofs.Ytnahlemchajfdaa
open Go.Conc Go.RowKit Go.IntWalk Go.Proofs.Ytnahlemchajfdaa.Meta

theorem Own.lo_of {w : World} {lo hi : Nat} {ao : Option Addr} {n cap : Nat} {l : List Int} (h : Own w lo hi ao n cap l) {b : Nat} (hn : n ≠ 0) (hb : blkOf ao = some b) : lo ≤ b ∧ b < hi := by
  obtain ⟨_, _, _, d⟩ := h
  rcases d with d | ⟨b', f, e, hl, hh, r⟩
  · exact absurd d.1 hn
  · subst e
    obtain rfl : b' = b := by simpa [blkOf] using hb
    exact ⟨hl, hh⟩

theorem eqClock_same (w : World) (a b : Int) :
    Calls Try.prog 12 #[.agg #[.int .i64 a, .int .i64 b], .agg #[.int .i64 a, .int .i64 b]] w fun e w' => e = .returned (.bool true) ∧ New w w' := by
  go_enter Try.func12, Try.ntmps12
  go_wp2
  go_ret
  exact ⟨rfl, (by repeat (first | with_reducible exact New.refl _ | with_reducible assumption | refine New.drewN ?_ _ | refine New.drew ?_ | refine New.alloc ?_ _ | refine New.setCell ?_ (by first | omega | (simp; omega) | (simp; done)) _ | (refine New.trans ?_ (by assumption))))⟩
theorem gc_world {P : Program} {Stop : Goroutine → World → Prop} {g : Goroutine} {w : World} (h : ∀ w', w' = w → GoesC P Stop g w') : GoesC P Stop g w := h w rfl

/-- A box of two cells, of the call's own. -/
structure Box2 (B : Nat) (w : World) : Prop where
  c : ∃ x y, w.cell? ⟨B, 0, none⟩ = some x ∧ w.cell? ⟨B, 1, none⟩ = some y
  f0 : w.frozen? ⟨B, 0, none⟩ = false
  f1 : w.frozen? ⟨B, 1, none⟩ = false
theorem NH.frz {w w' : World} (h : NH w w') {p : Addr} {v : Value} (hc : w.cell? p = some v) (hf : w.frozen? p = false) : w'.frozen? p = false :=
  (World.frozen?_of_block (h.old _ (World.block_lt_of_cell? _ _ hc))).trans hf
theorem Box2.nh {B : Nat} {w w' : World} (h : Box2 B w) (k : NH w w') : Box2 B w' := by
  obtain ⟨x, y, c0, c1⟩ := h.c
  exact ⟨⟨x, y, k.cell c0, k.cell c1⟩, k.frz c0 h.f0, k.frz c1 h.f1⟩
/-- What an operation leaves: nothing below has turned but for the box B, which keeps what it holds once it holds x and y. -/
structure FrB (B : Nat) (x y : Value) (w w' : World) : Prop where
  sz : w.heap.size ≤ w'.heap.size
  old : ∀ k, k < w.heap.size → k ≠ B → w'.heap[k]? = w.heap[k]?
  box : Box2 B w → Box2 B w'
  fin : w.cell? ⟨B, 0, none⟩ = some x ∧ w.cell? ⟨B, 1, none⟩ = some y → w'.cell? ⟨B, 0, none⟩ = some x ∧ w'.cell? ⟨B, 1, none⟩ = some y
theorem FrB.of_nh {B : Nat} {x y : Value} {w w' : World} (k : NH w w') : FrB B x y w w' :=
  ⟨k.sz, fun i hi _ => k.old i hi, fun h => h.nh k, fun h => ⟨k.cell h.1, k.cell h.2⟩⟩
theorem FrB.cell {B : Nat} {x y : Value} {w w' : World} (h : FrB B x y w w') {p : Addr} {v : Value} (hp : p.block ≠ B) (hc : w.cell? p = some v) : w'.cell? p = some v :=
  (World.cell?_of_block (h.old _ (World.block_lt_of_cell? _ _ hc) hp)).trans hc

/-- An operation that leaves nothing but a world. -/
theorem gc_eff {P : Program} {Stop : Goroutine → World → Prop} {b : Frame} {a : Act} {k : List Item} {cs : List Frame} {w : World} {ops : Array Oper} {i : Nat} {rest : List Nat} {o : Oper} {w1 : World} (hbk : b.kind = .normal) (ho : ops[i]? = some o) (hw : Region.wanted o (yielded ops a.tmps) = true) (hp : opOk (fun _ => false) o.op = true) (hn : NPW w)
    (hr : ∀ τ d, (execOp a.eval o).run P (Meta.wt w τ d) = .ok .skip (Meta.wt w1 τ d)) (h : NPW w1 → GoesC P Stop (G (b.at (a.put o.dst undef) (.inRegion ops rest :: k)) cs) w1) : GoesC P Stop (G (b.at a (.inRegion ops (i :: rest) :: k)) cs) w :=
  gc_op hbk hp ho hw hn fun K hK τ d => by
    unfold Oper.wp
    rw [hr τ d]
    exact hK _ _ fun hn' => (h (hn'.eq rfl)).wt τ d

def caR (B : Nat) (L D t : Int) : Nat → Value → World → Prop
  | 0, v, _ => v = .agg #[.int .i64 L, .int .i64 D]
  | 1, v, w => ∃ oa n oc hi, v = .slice oa n oc ∧ Own w (B + 2) hi oa n oc (levL D L)
  | 2, v, _ => v = .int .i64 t
  | 3, v, _ => v = .int .i64 (levK D L t.toNat)
  | 4, v, _ => v = .pointer (some ⟨B, 1, none⟩)
  | 5, v, _ => v = .int .i64 D
  | 6, v, _ => v = .agg #[.int .i64 (levK D L t.toNat), .int .i64 D]
  | 7, _, w => w.cell? ⟨B + 1, 0, none⟩ = some (.int .i64 (levK D L t.toNat)) ∧ w.cell? ⟨B + 1, 1, none⟩ = some (.int .i64 D)
  | _, v, _ => v = .bool true

theorem caR_keep (B : Nat) (L D t : Int) (j : Nat) (v : Value) (w w' : World) (h : FrB (B + 1) (.int .i64 (levK D L t.toNat)) (.int .i64 D) w w') (hr : caR B L D t j v w) : caR B L D t j v w' := by
  match j, hr with
  | 0, hr => exact hr
  | 1, ⟨oa, n, oc, hi, e, ow⟩ =>
    refine ⟨oa, n, oc, hi, e, ow.turned fun b hn hb hlt => h.old b hlt ?_⟩
    have := (ow.lo_of hn hb).1
    omega
  | 2, hr => exact hr
  | 3, hr => exact hr
  | 4, hr => exact hr
  | 5, hr => exact hr
  | 6, hr => exact hr
  | 7, hr => exact h.fin hr
  | _ + 8, hr => exact hr

set_option maxRecDepth 100000 in
set_option maxHeartbeats 8000000 in
theorem iClockAfter_any (w : World) (L D t : Int) :
    CallsC Try.prog 11 #[.agg #[.int .i64 L, .int .i64 D], .int .i64 t] w fun v w' => v = .tuple #[.agg #[.int .i64 (caL L D t), .int .i64 (caD L D t)], .bool (caB L D t)] ∧ NH w w' := by
  refine CallsC.of_body Try.func11 rfl fun Stop cf rest hn hnext => ?_
  refine gc_act (a' := ⟨#[.agg #[.int .i64 L, .int .i64 D], .int .i64 t, undef, undef, undef, undef, undef, undef, undef, undef, undef, undef, undef, undef, undef, undef, undef, undef, undef, undef, undef, undef], []⟩) (by simp only [Try.ntmps11, List.size_toArray, List.length_cons, List.length_nil, Nat.reduceAdd, Nat.reduceSub, Array.replicate_succ, Array.replicate_zero, List.push_toArray, List.append_toArray, List.nil_append, List.cons_append]) ?_
  refine gc_seq (gc_code plain_shut rfl ⟨_, Try.func11⟩ (by kernel_rfl) rfl hn fun K R hK hR τ => ?_)
  clear hR
  go_wp2
  intro hn1
  obtain ⟨w1, hw1⟩ : ∃ z, z = (((Meta.wt w τ 0).alloc (Obj.cells #[Value.int IntKind.i64 L, Value.int IntKind.i64 D] 24)).alloc (Obj.cells #[Value.int IntKind.i64 0, Value.int IntKind.i64 0] 24)) := ⟨_, rfl⟩
  rw [← hw1] at hn1 ⊢
  try simp only [show (Meta.wt w τ 0).heap.size = w.heap.size from rfl]
  obtain ⟨B, hB⟩ : ∃ B, B = w.heap.size := ⟨_, rfl⟩
  have b0 : w1.cell? ⟨B, 0, none⟩ = some (.int .i64 L) := by rw [hw1, hB]; simp [go_sem, Meta.wt]
  have b1 : w1.cell? ⟨B, 1, none⟩ = some (.int .i64 D) := by rw [hw1, hB]; simp [go_sem, Meta.wt]
  have d0 : w1.cell? ⟨B + 1, 0, none⟩ = some (.int .i64 0) := by rw [hw1, hB]; simp [go_sem, Meta.wt]
  have d1 : w1.cell? ⟨B + 1, 1, none⟩ = some (.int .i64 0) := by rw [hw1, hB]; simp [go_sem, Meta.wt]
  have f0 : w1.frozen? ⟨B + 1, 0, none⟩ = false := by rw [hw1, hB]; simp [go_sem, Meta.wt]
  have f1 : w1.frozen? ⟨B + 1, 1, none⟩ = false := by rw [hw1, hB]; simp [go_sem, Meta.wt]
  have N1 : NH w w1 := by rw [hw1]; exact (((NH.refl w).wt τ 0).alloc _).alloc _
  rw [← hB]
  have HB := Lib.hid hB
  clear hw1 hB
  by_cases hg : ckB L D = true
  · have q := ckB_iff.1 hg
    have G := Lib.hid hg
    by_cases hx : tmB t = true
    · have HM := Lib.hid (show caB L D t = true ∧ caL L D t = levK D L t.toNat ∧ caD L D t = D by
        have e : caB L D t = true := by unfold caB; rw [hg, hx]; rfl
        exact ⟨e, by unfold caL; rw [if_pos e], by unfold caD; rw [if_pos e]⟩)
      have qx : 0 ≤ t ∧ t ≤ 10000 := by unfold tmB at hx; exact inB_iff.1 hx
      have X := Lib.hid hx
      have LV := Lib.hid (fun w => levels_any w L D q.1.1 q.1.2 q.2.1 q.2.2)
      have BE := Lib.hid (fun w oa n oc h => levelBehind_any w D L t oa n oc q.2.1 q.1.1 q.1.2 qx.1 (by omega) h)
      clear hg hx q qx
      refine gc_seq (gc_code plain_shut rfl ⟨_, Try.func11⟩ (by kernel_rfl) rfl hn1 fun K R hK hR τ => ?_)
      clear hR
      have b0' : (Meta.wt w1 τ 0).cell? ⟨B, 0, none⟩ = some (.int .i64 L) := b0
      have b1' : (Meta.wt w1 τ 0).cell? ⟨B, 1, none⟩ = some (.int .i64 D) := b1
      have d0' : (Meta.wt w1 τ 0).cell? ⟨B + 1, 0, none⟩ = some (.int .i64 0) := d0
      have d1' : (Meta.wt w1 τ 0).cell? ⟨B + 1, 1, none⟩ = some (.int .i64 0) := d1
      have f0' : (Meta.wt w1 τ 0).frozen? ⟨B + 1, 0, none⟩ = false := f0
      have f1' : (Meta.wt w1 τ 0).frozen? ⟨B + 1, 1, none⟩ = false := f1
      clear b0 b1 d0 d1 f0 f1
      go_wp2_with fail
      refine (iIsClock_any _ _ _).mono ?_
      rintro e w2 ⟨rfl, n_w2⟩
      have N2 : NH w w2 := N1.trans ⟨n_w2.size, n_w2.block⟩
      have b0 : w2.cell? ⟨B, 0, none⟩ = some (.int .i64 L) := n_w2.cell b0'
      have b1 : w2.cell? ⟨B, 1, none⟩ = some (.int .i64 D) := n_w2.cell b1'
      have d0 : w2.cell? ⟨B + 1, 0, none⟩ = some (.int .i64 0) := n_w2.cell d0'
      have d1 : w2.cell? ⟨B + 1, 1, none⟩ = some (.int .i64 0) := n_w2.cell d1'
      have f0 : w2.frozen? ⟨B + 1, 0, none⟩ = false := n_w2.frz d0' f0'
      have f1 : w2.frozen? ⟨B + 1, 1, none⟩ = false := n_w2.frz d1' f1'
      rw [G.out]
      clear n_w2 b0' b1' d0' d1' f0' f1' N1 hn1
      go_wp2_with fail
      refine (isTime_any _ _).mono ?_
      rintro e w3 ⟨rfl, rfl⟩
      rw [X.out]
      go_wp2
      intro hn2
      have hbx : Box2 (B + 1) w2 := ⟨⟨_, _, d0, d1⟩, f0, f1⟩
      clear d0 d1 f0 f1
      refine gc_seq (gc_drawn_rel 22 [(1, .int .i64 t), (2, .pointer (some ⟨B, 0, none⟩)), (4, .pointer (some ⟨B + 1, 0, none⟩))] [] (caR B L D t) (FrB (B + 1) (.int .i64 (levK D L t.toNat)) (.int .i64 D)) (fun W => (∀ k, k < w.heap.size → W.heap[k]? = w.heap[k]?) ∧ B + 2 ≤ W.heap.size ∧ W.cell? ⟨B, 0, none⟩ = some (.int .i64 L) ∧ W.cell? ⟨B, 1, none⟩ = some (.int .i64 D) ∧ Box2 (B + 1) W)
        rfl (by kernel_rfl) (caR_keep B L D t) ?_ ?_ ?_ ⟨rfl, rfl, by simp⟩ ⟨N2.old, by have := World.block_lt_of_cell? _ _ b0; have := (hbx.c).elim fun x h => h.elim fun y h => World.block_lt_of_cell? _ _ h.1; simp only at this; omega, b0, b1, hbx⟩ hn2)
      · rintro W W' h ⟨h1, h2, h3, h4, h5⟩
        have hB := HB.out
        exact ⟨fun k hk => (h.old k (by omega) (by omega)).trans (h1 k hk), Nat.le_trans h2 h.sz, h.cell (by simp) h3, h.cell (by simp) h4, h.box h5⟩
      · intro i o ho a W hb hW hdep hnx rest next
        obtain ⟨bs, bd, bk⟩ := hb
        obtain ⟨k1, k2, k3, k4, k5⟩ := hW
        have t1 : a.tmps[1]? = some (.int .i64 t) := bk (1, _) (by simp)
        have t2 : a.tmps[2]? = some (.pointer (some ⟨B, 0, none⟩)) := bk (2, _) (by simp)
        have t4 : a.tmps[4]? = some (.pointer (some ⟨B + 1, 0, none⟩)) := bk (4, _) (by simp)
        clear bk
        rcases i with _ | _ | _ | _ | _ | _ | _ | _ | _ | i
        · obtain rfl := Option.some.inj ho
          refine gc_val (v := .agg #[.int .i64 L, .int .i64 D]) rfl ho rfl (by rfl) hnx (by intro τ d; have q0 : (Meta.wt W τ d).cell? ⟨B, 0, none⟩ = some (.int .i64 L) := k3; have q1 : (Meta.wt W τ d).cell? ⟨B, 1, none⟩ = some (.int .i64 D) := k4; simp [execOp, go_sem, t2, q0, q1]) (next _ _ rfl (.of_nh (NH.refl _)) hnx)
        · obtain rfl := Option.some.inj ho
          obtain ⟨v0, rfl, s0⟩ := hdep ⟨0, .data⟩ (by simp) rfl
          have t15 := s0 15 rfl
          refine gc_call rfl ho rfl rfl Try.func32 (by rfl) rfl hnx (Post := TicksPost W (levL D L)) ?_ fun v w3 hp hn3 => ?_
          · rw [show Array.map a.eval #[Operand.tmp 15] = #[.agg #[.int .i64 L, .int .i64 D]] from by simp [eval_tmp t15]]
            exact LV.out _
          · obtain ⟨oa, n, oc, rfl, own, nh⟩ := ticks_own hp
            exact next _ _ ⟨oa, n, oc, _, rfl, own.mono k2 (Nat.le_refl _)⟩ (.of_nh nh) hn3
        · obtain rfl := Option.some.inj ho
          refine gc_move rfl ho rfl hnx rfl ?_
          exact next _ _ (eval_tmp t1) (.of_nh (NH.refl _)) hnx
        · obtain rfl := Option.some.inj ho
          obtain ⟨v0, ⟨oa, n, oc, hi, rfl, own⟩, s0⟩ := hdep ⟨1, .data⟩ (by simp) rfl
          obtain ⟨v1, rfl, s1⟩ := hdep ⟨2, .data⟩ (by simp) rfl
          have t16 := s0 16 rfl
          have t17 := s1 17 rfl
          refine gc_call rfl ho rfl rfl Try.func31 (by rfl) rfl hnx (Post := fun v w' => v = .int .i64 (levK D L t.toNat) ∧ NH W w') ?_ fun v w3 hp hn3 => ?_
          · rw [show Array.map a.eval #[Operand.tmp 16, Operand.tmp 17] = #[.slice oa n oc, .int .i64 t] from by simp [eval_tmp t16, eval_tmp t17]]
            exact callsC_val plain_shut (by decide) fun τ => BE.out (Meta.wt W τ 0) oa n oc (own.wt τ 0).ints
          · obtain ⟨rfl, nh⟩ := hp
            exact next _ _ rfl (.of_nh nh) hn3
        · obtain rfl := Option.some.inj ho
          refine gc_val (v := .pointer (some ⟨B, 1, none⟩)) rfl ho rfl (by rfl) hnx (by intro τ d; simp [execOp, go_sem, t2]) (next _ _ rfl (.of_nh (NH.refl _)) hnx)
        · obtain rfl := Option.some.inj ho
          obtain ⟨v0, rfl, s0⟩ := hdep ⟨4, .data⟩ (by simp) rfl
          have t19 := s0 19 rfl
          refine gc_val (v := .int .i64 D) rfl ho rfl (by rfl) hnx (by intro τ d; have q1 : (Meta.wt W τ d).cell? ⟨B, 1, none⟩ = some (.int .i64 D) := k4; simp [execOp, go_sem, t19, q1]) (next _ _ rfl (.of_nh (NH.refl _)) hnx)
        · obtain rfl := Option.some.inj ho
          obtain ⟨v0, rfl, s0⟩ := hdep ⟨3, .data⟩ (by simp) rfl
          obtain ⟨v1, rfl, s1⟩ := hdep ⟨5, .data⟩ (by simp) rfl
          have t18 := s0 18 rfl
          have t20 := s1 20 rfl
          refine gc_val (v := .agg #[.int .i64 (levK D L t.toNat), .int .i64 D]) rfl ho rfl (by rfl) hnx (by intro τ d; simp [execOp, go_sem, t18, t20]) (next _ _ rfl (.of_nh (NH.refl _)) hnx)
        · obtain rfl := Option.some.inj ho
          obtain ⟨v0, rfl, s0⟩ := hdep ⟨6, .data⟩ (by simp) rfl
          have t21 := s0 21 rfl
          obtain ⟨x, y, c0, c1⟩ := k5.c
          refine gc_eff (w1 := (W.setCell ⟨B + 1, 0, none⟩ (.int .i64 (levK D L t.toNat))).setCell ⟨B + 1, 1, none⟩ (.int .i64 D)) rfl ho rfl (by rfl) hnx (by
            intro τ d
            have q0 : (Meta.wt W τ d).cell? ⟨B + 1, 0, none⟩ = some x := c0
            have q1 : (Meta.wt W τ d).cell? ⟨B + 1, 1, none⟩ = some y := c1
            have q2 : (Meta.wt W τ d).frozen? ⟨B + 1, 0, none⟩ = false := k5.f0
            have q3 : (Meta.wt W τ d).frozen? ⟨B + 1, 1, none⟩ = false := k5.f1
            simp [execOp, go_sem, t4, t21, q0, q1, q2, q3]
            rfl) fun hn3 => ?_
          have e0 : ((W.setCell ⟨B + 1, 0, none⟩ (.int .i64 (levK D L t.toNat))).setCell ⟨B + 1, 1, none⟩ (.int .i64 D)).cell? ⟨B + 1, 0, none⟩ = some (.int .i64 (levK D L t.toNat)) := by rw [set_other (by simp)]; exact set_same c0
          have e1 : ((W.setCell ⟨B + 1, 0, none⟩ (.int .i64 (levK D L t.toNat))).setCell ⟨B + 1, 1, none⟩ (.int .i64 D)).cell? ⟨B + 1, 1, none⟩ = some (.int .i64 D) := set_same (by rw [set_other (by simp)]; exact c1)
          have ch : Chg (fun b => b = B + 1) W ((W.setCell ⟨B + 1, 0, none⟩ (.int .i64 (levK D L t.toNat))).setCell ⟨B + 1, 1, none⟩ (.int .i64 D)) := (Chg.setCell (p := ⟨B + 1, 0, none⟩) _).trans (Chg.setCell (p := ⟨B + 1, 1, none⟩) _)
          exact next _ _ ⟨e0, e1⟩ ⟨ch.size, fun k hk hne => ch.block k hk hne, fun _ => ⟨⟨_, _, e0, e1⟩, by rw [World.frozen?_setCell, World.frozen?_setCell]; exact k5.f0, by rw [World.frozen?_setCell, World.frozen?_setCell]; exact k5.f1⟩, fun _ => ⟨e0, e1⟩⟩ hn3
        · obtain rfl := Option.some.inj ho
          refine gc_assign rfl ho rfl hnx rfl ?_
          exact next _ _ rfl (.of_nh (NH.refl _)) hnx
        · simp at ho
      · intro a W hb hW hg hnx
        obtain ⟨bs, bd, bk⟩ := hb
        obtain ⟨k1, k2, k3, k4, k5⟩ := hW
        have t4 : a.tmps[4]? = some (.pointer (some ⟨B + 1, 0, none⟩)) := bk (4, _) (by simp)
        obtain ⟨v0, r7, s0⟩ := hg 7 (by simp)
        obtain ⟨v1, rfl, s1⟩ := hg 8 (by simp)
        have t5 := s1 5 rfl
        have hB := HB.out
        refine gc_ret fun todo => ?_
        refine gc_leave rfl Try.func11 bd (v := .tuple #[.agg #[.int .i64 (levK D L t.toNat), .int .i64 D], .bool true]) (fun τ d => ?_) (hnext _ W ⟨by rw [HM.out.1, HM.out.2.1, HM.out.2.2], ⟨by omega, k1⟩⟩ hnx)
        have q0 : (Meta.wt W τ d).cell? ⟨B + 1, 0, none⟩ = some (.int .i64 (levK D L t.toNat)) := r7.1
        have q1 : (Meta.wt W τ d).cell? ⟨B + 1, 1, none⟩ = some (.int .i64 D) := r7.2
        simp [results, Try.results11, go_sem, t4, t5, q0, q1]
    · have hf := bool_nt hx
      have HM := Lib.hid (show caB L D t = false ∧ caL L D t = 0 ∧ caD L D t = 0 by
        have e : caB L D t = false := by unfold caB; rw [hf]; simp
        exact ⟨e, by unfold caL; rw [e]; rfl, by unfold caD; rw [e]; rfl⟩)
      have X := Lib.hid hf
      clear hg hx hf q
      refine gc_seq (gc_code plain_shut rfl ⟨_, Try.func11⟩ (by kernel_rfl) rfl hn1 fun K R hK hR τ => ?_)
      clear hK
      have b0' : (Meta.wt w1 τ 0).cell? ⟨B, 0, none⟩ = some (.int .i64 L) := b0
      have b1' : (Meta.wt w1 τ 0).cell? ⟨B, 1, none⟩ = some (.int .i64 D) := b1
      have d0' : (Meta.wt w1 τ 0).cell? ⟨B + 1, 0, none⟩ = some (.int .i64 0) := d0
      have d1' : (Meta.wt w1 τ 0).cell? ⟨B + 1, 1, none⟩ = some (.int .i64 0) := d1
      have f0' : (Meta.wt w1 τ 0).frozen? ⟨B + 1, 0, none⟩ = false := f0
      have f1' : (Meta.wt w1 τ 0).frozen? ⟨B + 1, 1, none⟩ = false := f1
      clear b0 b1 d0 d1 f0 f1
      go_wp2_with fail
      refine (iIsClock_any _ _ _).mono ?_
      rintro e w2 ⟨rfl, n_w2⟩
      have N2 : NH w w2 := N1.trans ⟨n_w2.size, n_w2.block⟩
      have d0 : w2.cell? ⟨B + 1, 0, none⟩ = some (.int .i64 0) := n_w2.cell d0'
      have d1 : w2.cell? ⟨B + 1, 1, none⟩ = some (.int .i64 0) := n_w2.cell d1'
      have f0 : w2.frozen? ⟨B + 1, 0, none⟩ = false := n_w2.frz d0' f0'
      have f1 : w2.frozen? ⟨B + 1, 1, none⟩ = false := n_w2.frz d1' f1'
      rw [G.out]
      clear n_w2 b0' b1' d0' d1' f0' f1' N1 hn1
      go_wp2_with fail
      refine (isTime_any _ _).mono ?_
      rintro e w3 ⟨rfl, rfl⟩
      rw [X.out]
      go_wp2
      intro hn2 todo
      have ch : Chg (fun b => b = B + 1) w2 ((w2.setCell ⟨B + 1, 0, none⟩ (.int .i64 0)).setCell ⟨B + 1, 1, none⟩ (.int .i64 0)) := (Chg.setCell (p := ⟨B + 1, 0, none⟩) _).trans (Chg.setCell (p := ⟨B + 1, 1, none⟩) _)
      have e0 : ((w2.setCell ⟨B + 1, 0, none⟩ (.int .i64 0)).setCell ⟨B + 1, 1, none⟩ (.int .i64 0)).cell? ⟨B + 1, 0, none⟩ = some (.int .i64 0) := by rw [set_other (by simp)]; exact set_same d0
      have e1 : ((w2.setCell ⟨B + 1, 0, none⟩ (.int .i64 0)).setCell ⟨B + 1, 1, none⟩ (.int .i64 0)).cell? ⟨B + 1, 1, none⟩ = some (.int .i64 0) := set_same (by rw [set_other (by simp)]; exact d1)
      have hB := HB.out
      refine gc_leave rfl Try.func11 rfl (v := .tuple #[.agg #[.int .i64 0, .int .i64 0], .bool false]) (fun τ d => ?_) (hnext _ _ ⟨by rw [HM.out.1, HM.out.2.1, HM.out.2.2], Nat.le_trans N2.sz ch.size, fun k hk => (ch.block k (Nat.lt_of_lt_of_le hk N2.sz) (by omega)).trans (N2.old k hk)⟩ hn2)
      have q0 := e0
      have q1 := e1
      generalize (w2.setCell ⟨B + 1, 0, none⟩ (.int .i64 0)).setCell ⟨B + 1, 1, none⟩ (.int .i64 0) = W at q0 q1 ⊢
      have q0 : (Meta.wt W τ d).cell? ⟨B + 1, 0, none⟩ = some (.int .i64 0) := q0
      have q1 : (Meta.wt W τ d).cell? ⟨B + 1, 1, none⟩ = some (.int .i64 0) := q1
      simp [results, Try.results11, go_sem, q0, q1]
  · have hf := bool_nt hg
    have HM := Lib.hid (show caB L D t = false ∧ caL L D t = 0 ∧ caD L D t = 0 by
        have e : caB L D t = false := by unfold caB; rw [hf]; simp
        exact ⟨e, by unfold caL; rw [e]; rfl, by unfold caD; rw [e]; rfl⟩)
    have G := Lib.hid hf
    clear hg hf
    refine gc_seq (gc_code plain_shut rfl ⟨_, Try.func11⟩ (by kernel_rfl) rfl hn1 fun K R hK hR τ => ?_)
    clear hK
    have b0' : (Meta.wt w1 τ 0).cell? ⟨B, 0, none⟩ = some (.int .i64 L) := b0
    have b1' : (Meta.wt w1 τ 0).cell? ⟨B, 1, none⟩ = some (.int .i64 D) := b1
    have d0' : (Meta.wt w1 τ 0).cell? ⟨B + 1, 0, none⟩ = some (.int .i64 0) := d0
    have d1' : (Meta.wt w1 τ 0).cell? ⟨B + 1, 1, none⟩ = some (.int .i64 0) := d1
    have f0' : (Meta.wt w1 τ 0).frozen? ⟨B + 1, 0, none⟩ = false := f0
    have f1' : (Meta.wt w1 τ 0).frozen? ⟨B + 1, 1, none⟩ = false := f1
    clear b0 b1 d0 d1 f0 f1
    go_wp2_with fail
    refine (iIsClock_any _ _ _).mono ?_
    rintro e w2 ⟨rfl, n_w2⟩
    have N2 : NH w w2 := N1.trans ⟨n_w2.size, n_w2.block⟩
    have d0 : w2.cell? ⟨B + 1, 0, none⟩ = some (.int .i64 0) := n_w2.cell d0'
    have d1 : w2.cell? ⟨B + 1, 1, none⟩ = some (.int .i64 0) := n_w2.cell d1'
    have f0 : w2.frozen? ⟨B + 1, 0, none⟩ = false := n_w2.frz d0' f0'
    have f1 : w2.frozen? ⟨B + 1, 1, none⟩ = false := n_w2.frz d1' f1'
    rw [G.out]
    clear n_w2 b0' b1' d0' d1' f0' f1' N1 hn1
    go_wp2
    intro hn2 todo
    have ch : Chg (fun b => b = B + 1) w2 ((w2.setCell ⟨B + 1, 0, none⟩ (.int .i64 0)).setCell ⟨B + 1, 1, none⟩ (.int .i64 0)) := (Chg.setCell (p := ⟨B + 1, 0, none⟩) _).trans (Chg.setCell (p := ⟨B + 1, 1, none⟩) _)
    have e0 : ((w2.setCell ⟨B + 1, 0, none⟩ (.int .i64 0)).setCell ⟨B + 1, 1, none⟩ (.int .i64 0)).cell? ⟨B + 1, 0, none⟩ = some (.int .i64 0) := by rw [set_other (by simp)]; exact set_same d0
    have e1 : ((w2.setCell ⟨B + 1, 0, none⟩ (.int .i64 0)).setCell ⟨B + 1, 1, none⟩ (.int .i64 0)).cell? ⟨B + 1, 1, none⟩ = some (.int .i64 0) := set_same (by rw [set_other (by simp)]; exact d1)
    have hB := HB.out
    refine gc_leave rfl Try.func11 rfl (v := .tuple #[.agg #[.int .i64 0, .int .i64 0], .bool false]) (fun τ d => ?_) (hnext _ _ ⟨by rw [HM.out.1, HM.out.2.1, HM.out.2.2], Nat.le_trans N2.sz ch.size, fun k hk => (ch.block k (Nat.lt_of_lt_of_le hk N2.sz) (by omega)).trans (N2.old k hk)⟩ hn2)
    have q0 := e0
    have q1 := e1
    generalize (w2.setCell ⟨B + 1, 0, none⟩ (.int .i64 0)).setCell ⟨B + 1, 1, none⟩ (.int .i64 0) = W at q0 q1 ⊢
    have q0 : (Meta.wt W τ d).cell? ⟨B + 1, 0, none⟩ = some (.int .i64 0) := q0
    have q1 : (Meta.wt W τ d).cell? ⟨B + 1, 1, none⟩ = some (.int .i64 0) := q1
    simp [results, Try.results11, go_sem, q0, q1]
end Go.Proofs.Ytnahlemchajfdaa
