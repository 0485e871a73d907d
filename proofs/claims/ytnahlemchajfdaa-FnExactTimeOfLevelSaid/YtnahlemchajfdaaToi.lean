/- TimeOfLevel and TimeToEmpty: the program's. -/
import Derived.Test.YtnahlemchajfdaaTol
import Derived.Test.YtnahlemchajfdaaLoi
import Derived.Test.YtnahlemchajfdaaTk4
namespace Go.Proofs.Ytnahlemchajfdaa
open Go.Conc Go.RowKit Go.IntWalk Go.Proofs.Ytnahlemchajfdaa.Meta

set_option maxRecDepth 100000 in
set_option maxHeartbeats 8000000 in
theorem iTimeOfLevel_any (w : World) (L D x : Int) :
    CallsC Try.prog 21 #[.agg #[.int .i64 L, .int .i64 D], .int .i64 x] w fun v w' => v = .tuple #[.int .i64 (tlM L D x), .bool (tlB L D x)] ∧ NH w w' := by
  refine CallsC.of_body Try.func21 rfl fun Stop cf rest hn hnext => ?_
  refine gc_act (a' := ⟨#[.agg #[.int .i64 L, .int .i64 D], .int .i64 x, undef, undef, undef, undef, undef, undef, undef, undef, undef, undef, undef, undef, undef, undef, undef], []⟩) (by simp only [Try.ntmps21, List.size_toArray, List.length_cons, List.length_nil, Nat.reduceAdd, Nat.reduceSub, Array.replicate_succ, Array.replicate_zero, List.push_toArray, List.append_toArray, List.nil_append, List.cons_append]) ?_
  refine gc_seq (gc_code plain_shut rfl ⟨_, Try.func21⟩ (by kernel_rfl) rfl hn fun K R hK hR τ => ?_)
  clear hR
  go_wp2
  intro hn1
  obtain ⟨w1, hw1⟩ : ∃ z, z = (((Meta.wt w τ 0).alloc (Obj.cells #[Value.int IntKind.i64 L, Value.int IntKind.i64 D] 24)).alloc (Obj.cells #[Value.int IntKind.i64 x] 3)) := ⟨_, rfl⟩
  rw [← hw1] at hn1 ⊢
  try simp only [show (Meta.wt w τ 0).heap.size = w.heap.size from rfl]
  have b0 : w1.cell? ⟨w.heap.size, 0, none⟩ = some (.int .i64 L) := by rw [hw1]; simp [go_sem, Meta.wt]
  have b1 : w1.cell? ⟨w.heap.size, 1, none⟩ = some (.int .i64 D) := by rw [hw1]; simp [go_sem, Meta.wt]
  have b2 : w1.cell? ⟨w.heap.size + 1, 0, none⟩ = some (.int .i64 x) := by rw [hw1]; simp [go_sem, Meta.wt]
  have N1 : NH w w1 := by rw [hw1]; exact (((NH.refl w).wt τ 0).alloc _).alloc _
  clear hw1
  by_cases hg : ckB L D = true
  · have q := ckB_iff.1 hg
    have G := Lib.hid hg
    by_cases hx : 0 ≤ x
    · have HM := Lib.hid (show tlB L D x = true ∧ tlM L D x = (tlN D L x : Nat) by
        have e : tlB L D x = true := by unfold tlB; rw [hg, decide_eq_true hx]; rfl
        exact ⟨e, by unfold tlM; rw [if_pos e]⟩)
      have nx : ¬ x < 0 := by omega
      have LV := Lib.hid (fun w => levels_any w L D q.1.1 q.1.2 q.2.1 q.2.2)
      have hle := Lib.hid (tlN_le q.2.1 q.1.1 hx)
      have hit := Lib.hid (tlN_hit q.2.1 q.1.1 hx)
      have bef := Lib.hid (fun j => tlN_before (j := j) q.2.1 q.1.1 hx)
      clear hg
      refine gc_seq (gc_code plain_shut rfl ⟨_, Try.func21⟩ (by kernel_rfl) rfl hn1 fun K R hK hR τ => ?_)
      clear hR
      have b0' : (Meta.wt w1 τ 0).cell? ⟨w.heap.size, 0, none⟩ = some (.int .i64 L) := b0
      have b1' : (Meta.wt w1 τ 0).cell? ⟨w.heap.size, 1, none⟩ = some (.int .i64 D) := b1
      have b2' : (Meta.wt w1 τ 0).cell? ⟨w.heap.size + 1, 0, none⟩ = some (.int .i64 x) := b2
      go_wp2_with fail
      refine (iIsClock_any _ _ _).mono ?_
      rintro e w2 ⟨rfl, n_w2⟩
      have N2 : NH w w2 := N1.trans ⟨n_w2.size, n_w2.block⟩
      have c0 : w2.cell? ⟨w.heap.size, 0, none⟩ = some (.int .i64 L) := n_w2.cell b0'
      have c1 : w2.cell? ⟨w.heap.size, 1, none⟩ = some (.int .i64 D) := n_w2.cell b1'
      have c2 : w2.cell? ⟨w.heap.size + 1, 0, none⟩ = some (.int .i64 x) := n_w2.cell b2'
      rw [G.out]
      clear n_w2 b0' b1' b2' b0 b1 b2 N1 hn1
      go_wp2
      intro hn2
      try rw [show decide (x < 0) = false from decide_eq_false (by omega)]
      refine gc_seq (gc_region ?_)
      refine gc_val (v := .agg #[.int .i64 L, .int .i64 D]) rfl (by rfl) rfl (by rfl) hn2 (by intro τ d; have q0 : (Meta.wt w2 τ d).cell? ⟨w.heap.size, 0, none⟩ = some (.int .i64 L) := c0; have q1 : (Meta.wt w2 τ d).cell? ⟨w.heap.size, 1, none⟩ = some (.int .i64 D) := c1; simp [execOp, go_sem, q0, q1]) ?_
      refine gc_act (a' := ⟨#[.agg #[.int .i64 L, .int .i64 D], .int .i64 x, .pointer (some ⟨w.heap.size, 0, none⟩), .pointer (some ⟨w.heap.size + 1, 0, none⟩), .int .i64 0, .bool false, .agg #[.int .i64 L, .int .i64 D], .bool true, .bool false, .bool false, .int .i64 x, .bool false, .bool false, .agg #[.int .i64 L, .int .i64 D], undef, undef, undef], []⟩) rfl ?_
      refine gc_call rfl (by rfl) rfl rfl Try.func32 (by rfl) rfl hn2 (Post := TicksPost w2 (levL D L)) ?_ fun v w3 hp hn3 => ?_
      · have hh' : Array.map (Act.eval ⟨#[.agg #[.int .i64 L, .int .i64 D], .int .i64 x, .pointer (some ⟨w.heap.size, 0, none⟩), .pointer (some ⟨w.heap.size + 1, 0, none⟩), .int .i64 0, .bool false, .agg #[.int .i64 L, .int .i64 D], .bool true, .bool false, .bool false, .int .i64 x, .bool false, .bool false, .agg #[.int .i64 L, .int .i64 D], undef, undef, undef], []⟩) #[Operand.tmp 13] = #[.agg #[.int .i64 L, .int .i64 D]] := by simp [Act.eval]
        rw [hh']
        exact LV.out _
      obtain ⟨oa, n, oc, rfl, own, nh⟩ := ticks_own hp
      have c3 : w3.cell? ⟨w.heap.size + 1, 0, none⟩ = some (.int .i64 x) := nh.cell c2
      have en : n = tim D L + 1 := by rw [own.1]; exact levL_length _ _
      refine gc_act (a' := ⟨#[.agg #[.int .i64 L, .int .i64 D], .int .i64 x, .pointer (some ⟨w.heap.size, 0, none⟩), .pointer (some ⟨w.heap.size + 1, 0, none⟩), .int .i64 0, .bool false, .agg #[.int .i64 L, .int .i64 D], .bool true, .bool false, .bool false, .int .i64 x, .bool false, .bool false, .agg #[.int .i64 L, .int .i64 D], .slice oa n oc, undef, undef], []⟩) rfl ?_
      refine gc_val (v := .func (.func 36) #[] #[.pointer (some ⟨w.heap.size + 1, 0, none⟩)]) rfl (by rfl) rfl (by rfl) hn3 (by intro τ d; simp [execOp, go_sem]) ?_
      refine gc_act (a' := ⟨#[.agg #[.int .i64 L, .int .i64 D], .int .i64 x, .pointer (some ⟨w.heap.size, 0, none⟩), .pointer (some ⟨w.heap.size + 1, 0, none⟩), .int .i64 0, .bool false, .agg #[.int .i64 L, .int .i64 D], .bool true, .bool false, .bool false, .int .i64 x, .bool false, .bool false, .agg #[.int .i64 L, .int .i64 D], .slice oa n oc, .func (.func 36) #[] #[.pointer (some ⟨w.heap.size + 1, 0, none⟩)], undef], []⟩) rfl ?_
      refine gc_call rfl (by rfl) rfl rfl Try.func35 (by rfl) rfl hn3 (Post := fun v w' => v = .int .i64 (tlN D L x : Nat) ∧ NH w3 w') ?_ fun v w4 hp4 hn4 => ?_
      · have hh' : Array.map (Act.eval ⟨#[.agg #[.int .i64 L, .int .i64 D], .int .i64 x, .pointer (some ⟨w.heap.size, 0, none⟩), .pointer (some ⟨w.heap.size + 1, 0, none⟩), .int .i64 0, .bool false, .agg #[.int .i64 L, .int .i64 D], .bool true, .bool false, .bool false, .int .i64 x, .bool false, .bool false, .agg #[.int .i64 L, .int .i64 D], .slice oa n oc, .func (.func 36) #[] #[.pointer (some ⟨w.heap.size + 1, 0, none⟩)], undef], []⟩) #[Operand.tmp 14, Operand.tmp 15] = #[.slice oa n oc, .func (.func 36) #[] #[.pointer (some ⟨w.heap.size + 1, 0, none⟩)]] := by simp [Act.eval]
        rw [hh']
        have hle' := hle.out
        refine idx_any w3 _ x oa n oc _ (tlN D L x) own.ints c3 (by omega) ?_ fun j hj => ?_
        · rw [levL_get D L hle']; exact hit.out
        · rw [levL_get D L (by omega)]; exact bef.out j hj
      obtain ⟨rfl, n4⟩ := hp4
      refine gc_act (a' := ⟨#[.agg #[.int .i64 L, .int .i64 D], .int .i64 x, .pointer (some ⟨w.heap.size, 0, none⟩), .pointer (some ⟨w.heap.size + 1, 0, none⟩), .int .i64 0, .bool false, .agg #[.int .i64 L, .int .i64 D], .bool true, .bool false, .bool false, .int .i64 x, .bool false, .bool false, .agg #[.int .i64 L, .int .i64 D], .slice oa n oc, .func (.func 36) #[] #[.pointer (some ⟨w.heap.size + 1, 0, none⟩)], .int .i64 (tlN D L x : Nat)], []⟩) rfl ?_
      refine gc_assign rfl (by rfl) rfl hn4 rfl ?_
      refine gc_assign rfl (by rfl) rfl hn4 rfl ?_
      refine gc_act (a' := ⟨#[.agg #[.int .i64 L, .int .i64 D], .int .i64 x, .pointer (some ⟨w.heap.size, 0, none⟩), .pointer (some ⟨w.heap.size + 1, 0, none⟩), .int .i64 (tlN D L x : Nat), .bool true, .agg #[.int .i64 L, .int .i64 D], .bool true, .bool false, .bool false, .int .i64 x, .bool false, .bool false, .agg #[.int .i64 L, .int .i64 D], .slice oa n oc, .func (.func 36) #[] #[.pointer (some ⟨w.heap.size + 1, 0, none⟩)], .int .i64 (tlN D L x : Nat)], []⟩) rfl ?_
      refine gc_nil (gc_ret fun todo => ?_)
      exact gc_leave rfl Try.func21 rfl (v := .tuple #[.int .i64 (tlN D L x : Nat), .bool true]) (fun τ d => by simp [results, Try.results21, go_sem]) (hnext _ w4 ⟨by rw [HM.out.1, HM.out.2], (N2.trans nh).trans n4⟩ hn4)
    · have HM := Lib.hid (show tlB L D x = false ∧ tlM L D x = 0 by
        have e : tlB L D x = false := by unfold tlB; rw [decide_eq_false hx]; simp
        exact ⟨e, by unfold tlM; rw [e]; rfl⟩)
      have nx : x < 0 := by omega
      clear hg
      refine gc_seq (gc_code plain_shut rfl ⟨_, Try.func21⟩ (by kernel_rfl) rfl hn1 fun K R hK hR τ => ?_)
      clear hK
      have b0' : (Meta.wt w1 τ 0).cell? ⟨w.heap.size, 0, none⟩ = some (.int .i64 L) := b0
      have b1' : (Meta.wt w1 τ 0).cell? ⟨w.heap.size, 1, none⟩ = some (.int .i64 D) := b1
      have b2' : (Meta.wt w1 τ 0).cell? ⟨w.heap.size + 1, 0, none⟩ = some (.int .i64 x) := b2
      go_wp2_with fail
      refine (iIsClock_any _ _ _).mono ?_
      rintro e w2 ⟨rfl, n_w2⟩
      have N2 : NH w w2 := N1.trans ⟨n_w2.size, n_w2.block⟩
      have c0 : w2.cell? ⟨w.heap.size, 0, none⟩ = some (.int .i64 L) := n_w2.cell b0'
      have c1 : w2.cell? ⟨w.heap.size, 1, none⟩ = some (.int .i64 D) := n_w2.cell b1'
      have c2 : w2.cell? ⟨w.heap.size + 1, 0, none⟩ = some (.int .i64 x) := n_w2.cell b2'
      rw [G.out]
      clear n_w2 b0' b1' b2' b0 b1 b2 N1 hn1
      go_wp2
      intro hn2 todo
      refine gc_leave rfl Try.func21 rfl (v := .tuple #[.int .i64 0, .bool false]) (fun τ d => by simp [results, Try.results21, go_sem]) (hnext _ w2 ⟨by rw [HM.out.1, HM.out.2], N2⟩ hn2)
  · have hf := bool_nt hg
    have HM := Lib.hid (show tlB L D x = false ∧ tlM L D x = 0 by
        have e : tlB L D x = false := by unfold tlB; rw [hf]; rfl
        exact ⟨e, by unfold tlM; rw [e]; rfl⟩)
    have G := Lib.hid hf
    clear hg hf
    refine gc_seq (gc_code plain_shut rfl ⟨_, Try.func21⟩ (by kernel_rfl) rfl hn1 fun K R hK hR τ => ?_)
    clear hK
    have b0' : (Meta.wt w1 τ 0).cell? ⟨w.heap.size, 0, none⟩ = some (.int .i64 L) := b0
    have b1' : (Meta.wt w1 τ 0).cell? ⟨w.heap.size, 1, none⟩ = some (.int .i64 D) := b1
    have b2' : (Meta.wt w1 τ 0).cell? ⟨w.heap.size + 1, 0, none⟩ = some (.int .i64 x) := b2
    go_wp2_with fail
    refine (iIsClock_any _ _ _).mono ?_
    rintro e w2 ⟨rfl, n_w2⟩
    have N2 : NH w w2 := N1.trans ⟨n_w2.size, n_w2.block⟩
    have c0 : w2.cell? ⟨w.heap.size, 0, none⟩ = some (.int .i64 L) := n_w2.cell b0'
    have c1 : w2.cell? ⟨w.heap.size, 1, none⟩ = some (.int .i64 D) := n_w2.cell b1'
    have c2 : w2.cell? ⟨w.heap.size + 1, 0, none⟩ = some (.int .i64 x) := n_w2.cell b2'
    rw [G.out]
    clear n_w2 b0' b1' b2' b0 b1 b2 N1 hn1
    go_wp2
    intro hn2 todo
    refine gc_leave rfl Try.func21 rfl (v := .tuple #[.int .i64 0, .bool false]) (fun τ d => by simp [results, Try.results21, go_sem]) (hnext _ w2 ⟨by rw [HM.out.1, HM.out.2], N2⟩ hn2)

set_option maxRecDepth 100000 in
set_option maxHeartbeats 4000000 in
theorem iTimeToEmpty_any (w : World) (L D : Int) :
    CallsC Try.prog 19 #[.agg #[.int .i64 L, .int .i64 D]] w fun v w' => v = .tuple #[.int .i64 (teM L D), .bool (ckB L D)] ∧ NH w w' := by
  refine CallsC.of_body Try.func19 rfl fun Stop cf rest hn hnext => ?_
  refine gc_act (a' := ⟨#[.agg #[.int .i64 L, .int .i64 D], undef, undef, undef, undef, undef, undef, undef], []⟩) (by simp only [Try.ntmps19, List.size_toArray, List.length_cons, List.length_nil, Nat.reduceAdd, Nat.reduceSub, Array.replicate_succ, Array.replicate_zero, List.push_toArray, List.append_toArray, List.nil_append, List.cons_append]) ?_
  refine gc_seq (gc_code plain_shut rfl ⟨_, Try.func19⟩ (by kernel_rfl) rfl hn fun K R hK hR τ => ?_)
  clear hR
  go_wp2
  intro hn1
  obtain ⟨w1, hw1⟩ : ∃ z, z = ((Meta.wt w τ 0).alloc (Obj.cells #[Value.int IntKind.i64 L, Value.int IntKind.i64 D] 24)) := ⟨_, rfl⟩
  rw [← hw1] at hn1 ⊢
  rw [show (Meta.wt w τ 0).heap.size = w.heap.size from rfl]
  have b0 : w1.cell? ⟨w.heap.size, 0, none⟩ = some (.int .i64 L) := by rw [hw1]; simp [go_sem, Meta.wt]
  have b1 : w1.cell? ⟨w.heap.size, 1, none⟩ = some (.int .i64 D) := by rw [hw1]; simp [go_sem, Meta.wt]
  have N1 : NH w w1 := by rw [hw1]; exact ((NH.refl w).wt τ 0).alloc _
  clear hw1
  refine gc_seq (gc_region ?_)
  refine gc_val (v := .agg #[.int .i64 L, .int .i64 D]) rfl (by rfl) rfl (by rfl) hn1 (by intro τ d; have q0 : (Meta.wt w1 τ d).cell? ⟨w.heap.size, 0, none⟩ = some (.int .i64 L) := b0; have q1 : (Meta.wt w1 τ d).cell? ⟨w.heap.size, 1, none⟩ = some (.int .i64 D) := b1; simp [execOp, go_sem, q0, q1]) ?_
  refine gc_act (a' := ⟨#[.agg #[.int .i64 L, .int .i64 D], .pointer (some ⟨w.heap.size, 0, none⟩), .int .i64 0, .bool false, .agg #[.int .i64 L, .int .i64 D], undef, undef, undef], []⟩) rfl ?_
  refine gc_call rfl (by rfl) rfl rfl Try.func21 (by rfl) rfl hn1 (Post := fun v w' => v = .tuple #[.int .i64 (tlM L D 0), .bool (tlB L D 0)] ∧ NH w1 w') ?_ fun v w2 hp hn2 => ?_
  · have hh' : Array.map (Act.eval ⟨#[.agg #[.int .i64 L, .int .i64 D], .pointer (some ⟨w.heap.size, 0, none⟩), .int .i64 0, .bool false, .agg #[.int .i64 L, .int .i64 D], undef, undef, undef], []⟩) #[Operand.tmp 4, Operand.const (.int .i64 0)] = #[.agg #[.int .i64 L, .int .i64 D], .int .i64 0] := by simp [Act.eval]
    rw [hh']
    exact iTimeOfLevel_any _ _ _ _
  obtain ⟨rfl, n2⟩ := hp
  rw [(tl_te L D).1, (tl_te L D).2]
  refine gc_act (a' := ⟨#[.agg #[.int .i64 L, .int .i64 D], .pointer (some ⟨w.heap.size, 0, none⟩), .int .i64 0, .bool false, .agg #[.int .i64 L, .int .i64 D], .tuple #[.int .i64 (teM L D), .bool (ckB L D)], undef, undef], []⟩) rfl ?_
  refine gc_val (v := .int .i64 (teM L D)) rfl (by rfl) rfl (by rfl) hn2 (by intro τ d; simp [execOp, go_sem]) ?_
  refine gc_act (a' := ⟨#[.agg #[.int .i64 L, .int .i64 D], .pointer (some ⟨w.heap.size, 0, none⟩), .int .i64 0, .bool false, .agg #[.int .i64 L, .int .i64 D], .tuple #[.int .i64 (teM L D), .bool (ckB L D)], .int .i64 (teM L D), undef], []⟩) rfl ?_
  refine gc_val (v := .bool (ckB L D)) rfl (by rfl) rfl (by rfl) hn2 (by intro τ d; simp [execOp, go_sem]) ?_
  refine gc_act (a' := ⟨#[.agg #[.int .i64 L, .int .i64 D], .pointer (some ⟨w.heap.size, 0, none⟩), .int .i64 0, .bool false, .agg #[.int .i64 L, .int .i64 D], .tuple #[.int .i64 (teM L D), .bool (ckB L D)], .int .i64 (teM L D), .bool (ckB L D)], []⟩) rfl ?_
  refine gc_assign rfl (by rfl) rfl hn2 rfl ?_
  refine gc_assign rfl (by rfl) rfl hn2 rfl ?_
  refine gc_act (a' := ⟨#[.agg #[.int .i64 L, .int .i64 D], .pointer (some ⟨w.heap.size, 0, none⟩), .int .i64 (teM L D), .bool (ckB L D), .agg #[.int .i64 L, .int .i64 D], .tuple #[.int .i64 (teM L D), .bool (ckB L D)], .int .i64 (teM L D), .bool (ckB L D)], []⟩) rfl ?_
  refine gc_nil (gc_ret fun todo => ?_)
  exact gc_leave rfl Try.func19 rfl (v := .tuple #[.int .i64 (teM L D), .bool (ckB L D)]) (fun τ d => by simp [results, Try.results19, go_sem]) (hnext _ w2 ⟨rfl, N1.trans n2⟩ hn2)
end Go.Proofs.Ytnahlemchajfdaa
