/- The law of MarksOf. -/
import Derived.Test.YtnahlemchajfdaaTk3
import Derived.Test.YtnahlemchajfdaaMkI
namespace Go.Proofs.Ytnahlemchajfdaa
open Go.Conc Go.RowKit Go.IntWalk Go.Proofs.Ytnahlemchajfdaa.Meta

set_option maxRecDepth 100000 in
set_option maxHeartbeats 20000000 in
theorem law_MarksOf (w : World) (x0_0 x0_1 x1 : Int) (hn : NPW w) :
    GoesC Try.prog (EndsW Try.prog fun v w' => v = .bool true ∧ NH w w') (G (Frame.enter Try.prog 7 #[.agg #[.int .i64 x0_0, .int .i64 x0_1], .int .i64 x1] .normal) []) w := by
  have LR0 := Lib.hid (moM_small x0_0 x0_1 x1)
  rw [enter_at _ Try.func7 rfl]
  refine gc_act (a' := ⟨#[.agg #[.int .i64 x0_0, .int .i64 x0_1], .int .i64 x1, undef, undef, undef, undef, undef, undef, undef, undef, undef, undef, undef, undef, undef, undef, undef, undef, undef, undef, undef, undef, undef, undef, undef, undef, undef, undef, undef, undef, undef, undef, undef, undef, undef, undef, undef, undef, undef, undef, undef, undef, undef, undef, undef, undef, undef, undef, undef, undef, undef, undef, undef, undef, undef, undef, undef, undef, undef, undef, undef, undef, undef, undef, undef, undef, undef, undef, undef, undef, undef], []⟩) (by simp only [Try.ntmps7, List.size_toArray, List.length_cons, List.length_nil, Nat.reduceAdd, Nat.reduceSub, Array.replicate_succ, Array.replicate_zero, List.push_toArray, List.append_toArray, List.nil_append, List.cons_append]) ?_
  refine gc_seq (gc_code plain_shut rfl ⟨_, Try.func7⟩ (by kernel_rfl) rfl hn fun K R hK hR τ => ?_)
  clear hR
  go_wp2
  intro hn1
  obtain ⟨v0, hv0⟩ : ∃ x, x = ((Meta.wt w τ 0).alloc (Obj.cells #[Value.int IntKind.i64 x0_0, Value.int IntKind.i64 x0_1] 23)) := ⟨_, rfl⟩
  rw [← hv0] at hn1 ⊢
  rw [show (Meta.wt w τ 0).heap.size = w.heap.size from rfl]
  have b0_v0 : v0.cell? ⟨w.heap.size, 0, none⟩ = some (.int .i64 x0_0) := by rw [hv0]; simp [go_sem, Meta.wt]
  have b1_v0 : v0.cell? ⟨w.heap.size, 1, none⟩ = some (.int .i64 x0_1) := by rw [hv0]; simp [go_sem, Meta.wt]
  have K0 : NH w v0 := by rw [hv0]; exact ((NH.refl w).wt τ 0).alloc _
  have zv0 : w.heap.size < v0.heap.size := by rw [hv0]; simp [Meta.wt]
  clear hv0
  refine gc_seq (gc_code plain_shut rfl ⟨_, Try.func7⟩ (by kernel_rfl) rfl hn1 fun K R hK hR τ => ?_)
  clear hR
  have b0' : (Meta.wt v0 τ 0).cell? ⟨w.heap.size, 0, none⟩ = some (.int .i64 x0_0) := b0_v0
  have b1' : (Meta.wt v0 τ 0).cell? ⟨w.heap.size, 1, none⟩ = some (.int .i64 x0_1) := b1_v0
  go_wp2_with fail
  refine (toClock_one _ _ _).mono ?_
  rintro e u1 ⟨rfl, n_u1⟩
  have b0_u1 : u1.cell? ⟨w.heap.size, 0, none⟩ = some (.int .i64 x0_0) := n_u1.cell b0'
  have b1_u1 : u1.cell? ⟨w.heap.size, 1, none⟩ = some (.int .i64 x0_1) := n_u1.cell b1'
  have Ku1 : NH w u1 := K0.new n_u1
  have zu1 : v0.heap.size ≤ u1.heap.size := n_u1.size
  clear n_u1 b0' b1'
  go_wp2_with fail
  refine (sMarksOf_any _ _ _ _).mono ?_
  rintro e u2 ⟨p0a, p0n, p0c, rfl, op0, n_u2⟩
  have b0_u2 : u2.cell? ⟨w.heap.size, 0, none⟩ = some (.int .i64 x0_0) := n_u2.cell b0_u1
  have b1_u2 : u2.cell? ⟨w.heap.size, 1, none⟩ = some (.int .i64 x0_1) := n_u2.cell b1_u1
  have Ku2 : NH w u2 := Ku1.trans (NH.of_new n_u2)
  have zu2 : u1.heap.size ≤ u2.heap.size := n_u2.size
  have Op0 := Lib.hid op0; clear op0
  clear n_u2 b0_u1 b1_u1 b0_v0 b1_v0 hn1
  go_wp2
  intro hn2
  refine gc_seq (gc_region ?_)
  refine gc_val (v := .agg #[.int .i64 x0_0, .int .i64 x0_1]) rfl (by rfl) rfl (by rfl) hn2 (by intro τ d; have q0 : (Meta.wt u2 τ d).cell? ⟨w.heap.size, 0, none⟩ = some (.int .i64 x0_0) := b0_u2; have q1 : (Meta.wt u2 τ d).cell? ⟨w.heap.size, 1, none⟩ = some (.int .i64 x0_1) := b1_u2; simp [execOp, go_sem, q0, q1]) ?_
  refine gc_act (a' := ⟨#[.agg #[.int .i64 x0_0, .int .i64 x0_1], .int .i64 x1, .pointer (some ⟨w.heap.size, 0, none⟩), undef, .bool false, .slice p0a p0n p0c, .bool (moB x0_0 x0_1 x1), undef, undef, undef, undef, undef, undef, .tuple #[.slice p0a p0n p0c, .bool (moB x0_0 x0_1 x1)], .agg #[.int .i64 x0_0, .int .i64 x0_1], .agg #[.int .i64 x0_0, .int .i64 x0_1], .int .i64 x1, .tuple #[.slice p0a p0n p0c, .bool (moB x0_0 x0_1 x1)], .slice p0a p0n p0c, .bool (moB x0_0 x0_1 x1), undef, .agg #[.int .i64 x0_0, .int .i64 x0_1], undef, undef, undef, undef, undef, undef, undef, undef, undef, undef, undef, undef, undef, undef, undef, undef, undef, undef, undef, undef, undef, undef, undef, undef, undef, undef, undef, undef, undef, undef, undef, undef, undef, undef, undef, undef, undef, undef, undef, undef, undef, undef, undef, undef, undef, undef, undef, undef, undef], []⟩) rfl ?_
  refine gc_call rfl (by rfl) rfl rfl Try.func10 (by rfl) rfl hn2 (Post := fun q q' => q = .agg #[.int .i64 x0_0, .int .i64 x0_1] ∧ NH u2 q') ?_ fun q u3 hp hn3 => ?_
  · have hh : Array.map (Act.eval ⟨#[.agg #[.int .i64 x0_0, .int .i64 x0_1], .int .i64 x1, .pointer (some ⟨w.heap.size, 0, none⟩), undef, .bool false, .slice p0a p0n p0c, .bool (moB x0_0 x0_1 x1), undef, undef, undef, undef, undef, undef, .tuple #[.slice p0a p0n p0c, .bool (moB x0_0 x0_1 x1)], .agg #[.int .i64 x0_0, .int .i64 x0_1], .agg #[.int .i64 x0_0, .int .i64 x0_1], .int .i64 x1, .tuple #[.slice p0a p0n p0c, .bool (moB x0_0 x0_1 x1)], .slice p0a p0n p0c, .bool (moB x0_0 x0_1 x1), undef, .agg #[.int .i64 x0_0, .int .i64 x0_1], undef, undef, undef, undef, undef, undef, undef, undef, undef, undef, undef, undef, undef, undef, undef, undef, undef, undef, undef, undef, undef, undef, undef, undef, undef, undef, undef, undef, undef, undef, undef, undef, undef, undef, undef, undef, undef, undef, undef, undef, undef, undef, undef, undef, undef, undef, undef, undef, undef], []⟩) #[Operand.tmp 21] = #[.agg #[.int .i64 x0_0, .int .i64 x0_1]] := by simp [Act.eval]
    rw [hh]
    exact toClock_c _ _ _
  obtain ⟨rfl, n_u3⟩ := hp
  have b0_u3 : u3.cell? ⟨w.heap.size, 0, none⟩ = some (.int .i64 x0_0) := n_u3.cell b0_u2
  have b1_u3 : u3.cell? ⟨w.heap.size, 1, none⟩ = some (.int .i64 x0_1) := n_u3.cell b1_u2
  have Ku3 : NH w u3 := Ku2.trans n_u3
  have zu3 : u2.heap.size ≤ u3.heap.size := n_u3.sz
  refine gc_act (a' := ⟨#[.agg #[.int .i64 x0_0, .int .i64 x0_1], .int .i64 x1, .pointer (some ⟨w.heap.size, 0, none⟩), undef, .bool false, .slice p0a p0n p0c, .bool (moB x0_0 x0_1 x1), undef, undef, undef, undef, undef, undef, .tuple #[.slice p0a p0n p0c, .bool (moB x0_0 x0_1 x1)], .agg #[.int .i64 x0_0, .int .i64 x0_1], .agg #[.int .i64 x0_0, .int .i64 x0_1], .int .i64 x1, .tuple #[.slice p0a p0n p0c, .bool (moB x0_0 x0_1 x1)], .slice p0a p0n p0c, .bool (moB x0_0 x0_1 x1), undef, .agg #[.int .i64 x0_0, .int .i64 x0_1], .agg #[.int .i64 x0_0, .int .i64 x0_1], undef, undef, undef, undef, undef, undef, undef, undef, undef, undef, undef, undef, undef, undef, undef, undef, undef, undef, undef, undef, undef, undef, undef, undef, undef, undef, undef, undef, undef, undef, undef, undef, undef, undef, undef, undef, undef, undef, undef, undef, undef, undef, undef, undef, undef, undef, undef, undef], []⟩) rfl ?_
  refine gc_move rfl (by rfl) rfl hn3 rfl ?_
  refine gc_act (a' := ⟨#[.agg #[.int .i64 x0_0, .int .i64 x0_1], .int .i64 x1, .pointer (some ⟨w.heap.size, 0, none⟩), undef, .bool false, .slice p0a p0n p0c, .bool (moB x0_0 x0_1 x1), undef, undef, undef, undef, undef, undef, .tuple #[.slice p0a p0n p0c, .bool (moB x0_0 x0_1 x1)], .agg #[.int .i64 x0_0, .int .i64 x0_1], .agg #[.int .i64 x0_0, .int .i64 x0_1], .int .i64 x1, .tuple #[.slice p0a p0n p0c, .bool (moB x0_0 x0_1 x1)], .slice p0a p0n p0c, .bool (moB x0_0 x0_1 x1), undef, .agg #[.int .i64 x0_0, .int .i64 x0_1], .agg #[.int .i64 x0_0, .int .i64 x0_1], .int .i64 x1, undef, undef, undef, undef, undef, undef, undef, undef, undef, undef, undef, undef, undef, undef, undef, undef, undef, undef, undef, undef, undef, undef, undef, undef, undef, undef, undef, undef, undef, undef, undef, undef, undef, undef, undef, undef, undef, undef, undef, undef, undef, undef, undef, undef, undef, undef, undef], []⟩) rfl ?_
  refine gc_call rfl (by rfl) rfl rfl Try.func23 (by rfl) rfl hn3 (Post := fun q q' => ∃ oa n oc, q = .tuple #[.slice oa n oc, .bool (moB x0_0 x0_1 x1)] ∧ Own q' u3.heap.size q'.heap.size oa n oc (moM x0_0 x0_1 x1) ∧ NH u3 q') ?_ fun q u4 hp hn4 => ?_
  · have hh : Array.map (Act.eval ⟨#[.agg #[.int .i64 x0_0, .int .i64 x0_1], .int .i64 x1, .pointer (some ⟨w.heap.size, 0, none⟩), undef, .bool false, .slice p0a p0n p0c, .bool (moB x0_0 x0_1 x1), undef, undef, undef, undef, undef, undef, .tuple #[.slice p0a p0n p0c, .bool (moB x0_0 x0_1 x1)], .agg #[.int .i64 x0_0, .int .i64 x0_1], .agg #[.int .i64 x0_0, .int .i64 x0_1], .int .i64 x1, .tuple #[.slice p0a p0n p0c, .bool (moB x0_0 x0_1 x1)], .slice p0a p0n p0c, .bool (moB x0_0 x0_1 x1), undef, .agg #[.int .i64 x0_0, .int .i64 x0_1], .agg #[.int .i64 x0_0, .int .i64 x0_1], .int .i64 x1, undef, undef, undef, undef, undef, undef, undef, undef, undef, undef, undef, undef, undef, undef, undef, undef, undef, undef, undef, undef, undef, undef, undef, undef, undef, undef, undef, undef, undef, undef, undef, undef, undef, undef, undef, undef, undef, undef, undef, undef, undef, undef, undef, undef, undef, undef, undef], []⟩) #[Operand.tmp 22, Operand.tmp 23] = #[.agg #[.int .i64 x0_0, .int .i64 x0_1], .int .i64 x1] := by simp [Act.eval]
    rw [hh]
    exact iMarksOf_any _ _ _ _
  obtain ⟨g0a, g0n, g0c, rfl, og0, n_u4⟩ := hp
  have b0_u4 : u4.cell? ⟨w.heap.size, 0, none⟩ = some (.int .i64 x0_0) := n_u4.cell b0_u3
  have b1_u4 : u4.cell? ⟨w.heap.size, 1, none⟩ = some (.int .i64 x0_1) := n_u4.cell b1_u3
  have Ku4 : NH w u4 := Ku3.trans n_u4
  have zu4 : u3.heap.size ≤ u4.heap.size := n_u4.sz
  have Og0 := Lib.hid og0; clear og0
  refine gc_act (a' := ⟨#[.agg #[.int .i64 x0_0, .int .i64 x0_1], .int .i64 x1, .pointer (some ⟨w.heap.size, 0, none⟩), undef, .bool false, .slice p0a p0n p0c, .bool (moB x0_0 x0_1 x1), undef, undef, undef, undef, undef, undef, .tuple #[.slice p0a p0n p0c, .bool (moB x0_0 x0_1 x1)], .agg #[.int .i64 x0_0, .int .i64 x0_1], .agg #[.int .i64 x0_0, .int .i64 x0_1], .int .i64 x1, .tuple #[.slice p0a p0n p0c, .bool (moB x0_0 x0_1 x1)], .slice p0a p0n p0c, .bool (moB x0_0 x0_1 x1), undef, .agg #[.int .i64 x0_0, .int .i64 x0_1], .agg #[.int .i64 x0_0, .int .i64 x0_1], .int .i64 x1, .tuple #[.slice g0a g0n g0c, .bool (moB x0_0 x0_1 x1)], undef, undef, undef, undef, undef, undef, undef, undef, undef, undef, undef, undef, undef, undef, undef, undef, undef, undef, undef, undef, undef, undef, undef, undef, undef, undef, undef, undef, undef, undef, undef, undef, undef, undef, undef, undef, undef, undef, undef, undef, undef, undef, undef, undef, undef, undef], []⟩) rfl ?_
  refine gc_move rfl (by rfl) rfl hn4 rfl ?_
  refine gc_act (a' := ⟨#[.agg #[.int .i64 x0_0, .int .i64 x0_1], .int .i64 x1, .pointer (some ⟨w.heap.size, 0, none⟩), undef, .bool false, .slice p0a p0n p0c, .bool (moB x0_0 x0_1 x1), undef, undef, undef, undef, undef, undef, .tuple #[.slice p0a p0n p0c, .bool (moB x0_0 x0_1 x1)], .agg #[.int .i64 x0_0, .int .i64 x0_1], .agg #[.int .i64 x0_0, .int .i64 x0_1], .int .i64 x1, .tuple #[.slice p0a p0n p0c, .bool (moB x0_0 x0_1 x1)], .slice p0a p0n p0c, .bool (moB x0_0 x0_1 x1), .tuple #[.slice g0a g0n g0c, .bool (moB x0_0 x0_1 x1)], .agg #[.int .i64 x0_0, .int .i64 x0_1], .agg #[.int .i64 x0_0, .int .i64 x0_1], .int .i64 x1, .tuple #[.slice g0a g0n g0c, .bool (moB x0_0 x0_1 x1)], undef, undef, undef, undef, undef, undef, undef, undef, undef, undef, undef, undef, undef, undef, undef, undef, undef, undef, undef, undef, undef, undef, undef, undef, undef, undef, undef, undef, undef, undef, undef, undef, undef, undef, undef, undef, undef, undef, undef, undef, undef, undef, undef, undef, undef, undef], []⟩) rfl ?_
  refine gc_val (v := .slice g0a g0n g0c) rfl (by rfl) rfl (by rfl) hn4 (by intro τ d; simp [execOp, go_sem]) ?_
  refine gc_act (a' := ⟨#[.agg #[.int .i64 x0_0, .int .i64 x0_1], .int .i64 x1, .pointer (some ⟨w.heap.size, 0, none⟩), undef, .bool false, .slice p0a p0n p0c, .bool (moB x0_0 x0_1 x1), undef, undef, undef, undef, undef, undef, .tuple #[.slice p0a p0n p0c, .bool (moB x0_0 x0_1 x1)], .agg #[.int .i64 x0_0, .int .i64 x0_1], .agg #[.int .i64 x0_0, .int .i64 x0_1], .int .i64 x1, .tuple #[.slice p0a p0n p0c, .bool (moB x0_0 x0_1 x1)], .slice p0a p0n p0c, .bool (moB x0_0 x0_1 x1), .tuple #[.slice g0a g0n g0c, .bool (moB x0_0 x0_1 x1)], .agg #[.int .i64 x0_0, .int .i64 x0_1], .agg #[.int .i64 x0_0, .int .i64 x0_1], .int .i64 x1, .tuple #[.slice g0a g0n g0c, .bool (moB x0_0 x0_1 x1)], .slice g0a g0n g0c, undef, undef, undef, undef, undef, undef, undef, undef, undef, undef, undef, undef, undef, undef, undef, undef, undef, undef, undef, undef, undef, undef, undef, undef, undef, undef, undef, undef, undef, undef, undef, undef, undef, undef, undef, undef, undef, undef, undef, undef, undef, undef, undef, undef, undef], []⟩) rfl ?_
  refine gc_val (v := .bool (moB x0_0 x0_1 x1)) rfl (by rfl) rfl (by rfl) hn4 (by intro τ d; simp [execOp, go_sem]) ?_
  refine gc_act (a' := ⟨#[.agg #[.int .i64 x0_0, .int .i64 x0_1], .int .i64 x1, .pointer (some ⟨w.heap.size, 0, none⟩), undef, .bool false, .slice p0a p0n p0c, .bool (moB x0_0 x0_1 x1), undef, undef, undef, undef, undef, undef, .tuple #[.slice p0a p0n p0c, .bool (moB x0_0 x0_1 x1)], .agg #[.int .i64 x0_0, .int .i64 x0_1], .agg #[.int .i64 x0_0, .int .i64 x0_1], .int .i64 x1, .tuple #[.slice p0a p0n p0c, .bool (moB x0_0 x0_1 x1)], .slice p0a p0n p0c, .bool (moB x0_0 x0_1 x1), .tuple #[.slice g0a g0n g0c, .bool (moB x0_0 x0_1 x1)], .agg #[.int .i64 x0_0, .int .i64 x0_1], .agg #[.int .i64 x0_0, .int .i64 x0_1], .int .i64 x1, .tuple #[.slice g0a g0n g0c, .bool (moB x0_0 x0_1 x1)], .slice g0a g0n g0c, .bool (moB x0_0 x0_1 x1), undef, undef, undef, undef, undef, undef, undef, undef, undef, undef, undef, undef, undef, undef, undef, undef, undef, undef, undef, undef, undef, undef, undef, undef, undef, undef, undef, undef, undef, undef, undef, undef, undef, undef, undef, undef, undef, undef, undef, undef, undef, undef, undef, undef], []⟩) rfl ?_
  refine gc_assign rfl (by rfl) rfl hn4 rfl ?_
  refine gc_act (a' := ⟨#[.agg #[.int .i64 x0_0, .int .i64 x0_1], .int .i64 x1, .pointer (some ⟨w.heap.size, 0, none⟩), undef, .bool false, .slice p0a p0n p0c, .bool (moB x0_0 x0_1 x1), .slice g0a g0n g0c, undef, undef, undef, undef, undef, .tuple #[.slice p0a p0n p0c, .bool (moB x0_0 x0_1 x1)], .agg #[.int .i64 x0_0, .int .i64 x0_1], .agg #[.int .i64 x0_0, .int .i64 x0_1], .int .i64 x1, .tuple #[.slice p0a p0n p0c, .bool (moB x0_0 x0_1 x1)], .slice p0a p0n p0c, .bool (moB x0_0 x0_1 x1), .tuple #[.slice g0a g0n g0c, .bool (moB x0_0 x0_1 x1)], .agg #[.int .i64 x0_0, .int .i64 x0_1], .agg #[.int .i64 x0_0, .int .i64 x0_1], .int .i64 x1, .tuple #[.slice g0a g0n g0c, .bool (moB x0_0 x0_1 x1)], .slice g0a g0n g0c, .bool (moB x0_0 x0_1 x1), undef, undef, undef, undef, undef, undef, undef, undef, undef, undef, undef, undef, undef, undef, undef, undef, undef, undef, undef, undef, undef, undef, undef, undef, undef, undef, undef, undef, undef, undef, undef, undef, undef, undef, undef, undef, undef, undef, undef, undef, undef, undef, undef, undef], []⟩) rfl ?_
  refine gc_assign rfl (by rfl) rfl hn4 rfl ?_
  refine gc_act (a' := ⟨#[.agg #[.int .i64 x0_0, .int .i64 x0_1], .int .i64 x1, .pointer (some ⟨w.heap.size, 0, none⟩), undef, .bool false, .slice p0a p0n p0c, .bool (moB x0_0 x0_1 x1), .slice g0a g0n g0c, .bool (moB x0_0 x0_1 x1), undef, undef, undef, undef, .tuple #[.slice p0a p0n p0c, .bool (moB x0_0 x0_1 x1)], .agg #[.int .i64 x0_0, .int .i64 x0_1], .agg #[.int .i64 x0_0, .int .i64 x0_1], .int .i64 x1, .tuple #[.slice p0a p0n p0c, .bool (moB x0_0 x0_1 x1)], .slice p0a p0n p0c, .bool (moB x0_0 x0_1 x1), .tuple #[.slice g0a g0n g0c, .bool (moB x0_0 x0_1 x1)], .agg #[.int .i64 x0_0, .int .i64 x0_1], .agg #[.int .i64 x0_0, .int .i64 x0_1], .int .i64 x1, .tuple #[.slice g0a g0n g0c, .bool (moB x0_0 x0_1 x1)], .slice g0a g0n g0c, .bool (moB x0_0 x0_1 x1), undef, undef, undef, undef, undef, undef, undef, undef, undef, undef, undef, undef, undef, undef, undef, undef, undef, undef, undef, undef, undef, undef, undef, undef, undef, undef, undef, undef, undef, undef, undef, undef, undef, undef, undef, undef, undef, undef, undef, undef, undef, undef, undef, undef], []⟩) rfl ?_
  refine gc_nil ?_
  clear b0_u2 b1_u2 b0_u3 b1_u3
  refine gc_seq (gc_code plain_shut rfl ⟨_, Try.func7⟩ (by kernel_rfl) rfl hn4 fun K R hK hR τ => ?_)
  clear hR
  have b0' : (Meta.wt u4 τ 0).cell? ⟨w.heap.size, 0, none⟩ = some (.int .i64 x0_0) := b0_u4
  have b1' : (Meta.wt u4 τ 0).cell? ⟨w.heap.size, 1, none⟩ = some (.int .i64 x0_1) := b1_u4
  go_wp2_with fail
  refine (eqIntS_same _ _ _ _ _ _ _ _ (Own.wt Og0.out τ 0).ints (Own.wt (Op0.out.nh (n_u3.trans n_u4)) τ 0).ints).mono ?_
  rintro e u5 ⟨rfl, n_u5⟩
  have b0_u5 : u5.cell? ⟨w.heap.size, 0, none⟩ = some (.int .i64 x0_0) := n_u5.cell b0'
  have b1_u5 : u5.cell? ⟨w.heap.size, 1, none⟩ = some (.int .i64 x0_1) := n_u5.cell b1'
  have Ku5 : NH w u5 := Ku4.new n_u5
  have n5 := nh_new n_u5
  have zu5 : u4.heap.size ≤ u5.heap.size := n_u5.size
  clear n_u5 b0' b1' b0_u4 b1_u4
  go_wp2
  intro hn5
  refine gc_seq (gc_code plain_shut rfl ⟨_, Try.func7⟩ (by kernel_rfl) rfl hn5 fun K R hK hR τ => ?_)
  clear hR
  go_wp2
  intro _
  refine GoesC.wt ?_ _ _
  refine gc_seq (gc_code plain_shut rfl ⟨_, Try.func7⟩ (by kernel_rfl) rfl hn5 fun K R hK hR τ => ?_)
  clear hR
  have b0' : (Meta.wt u5 τ 0).cell? ⟨w.heap.size, 0, none⟩ = some (.int .i64 x0_0) := b0_u5
  have b1' : (Meta.wt u5 τ 0).cell? ⟨w.heap.size, 1, none⟩ = some (.int .i64 x0_1) := b1_u5
  have yu6 : g0n ≤ 1048576 := by have q1 := Og0.out.1; have q2 := LR0.out; omega
  go_wp2_with fail
  refine (markIntS_any _ u3.heap.size u4.heap.size _ _ _ _ _ (Own.wt (Og0.out.nh n5) τ 0) (by omega) (by omega)).mono ?_
  rintro e u6 ⟨rfl, mu6, ku6⟩
  have b0_u6 : u6.cell? ⟨w.heap.size, 0, none⟩ = some (.int .i64 x0_0) := ku6.cell b0' (fun h => by have bb := (Og0.out).bounds h.1 h.2; (try simp only at bb); omega)
  have b1_u6 : u6.cell? ⟨w.heap.size, 1, none⟩ = some (.int .i64 x0_1) := ku6.cell b1' (fun h => by have bb := (Og0.out).bounds h.1 h.2; (try simp only at bb); omega)
  have Ku6 : NH w u6 := Ku5.chg ku6 (fun b h => by have bb := (Og0.out).bounds h.1 h.2; omega)
  have Op6 := Lib.hid ((Own.wt (Op0.out.nh ((n_u3.trans n_u4).trans n5)) τ 0).chg ku6 (fun b h1 h2 h => by have bb := (Og0.out).bounds h.1 h.2; omega))
  have Mu6 := Lib.hid mu6; clear mu6
  have zu6 : u5.heap.size ≤ u6.heap.size := ku6.size
  clear ku6 b0' b1' b0_u5 b1_u5
  have eu6 : ¬ 1 + (g0n : Int) < 0 := by omega
  go_wp2
  intro hn6
  refine gc_seq (gc_code plain_shut rfl ⟨_, Try.func7⟩ (by kernel_rfl) rfl hn6 fun K R hK hR τ => ?_)
  clear hR
  go_wp2
  intro _
  refine GoesC.wt ?_ _ _
  refine gc_seq (gc_code plain_shut rfl ⟨_, Try.func7⟩ (by kernel_rfl) rfl hn6 fun K R hK hR τ => ?_)
  clear hR
  have b0' : (Meta.wt u6 τ 0).cell? ⟨w.heap.size, 0, none⟩ = some (.int .i64 x0_0) := b0_u6
  have b1' : (Meta.wt u6 τ 0).cell? ⟨w.heap.size, 1, none⟩ = some (.int .i64 x0_1) := b1_u6
  go_wp2_with fail
  refine (heldIntS_new _ _ _ _ _ (Own.wt Mu6.out τ 0).ints (by omega) (by omega)).mono ?_
  rintro e u7 ⟨rfl, n_u7⟩
  have b0_u7 : u7.cell? ⟨w.heap.size, 0, none⟩ = some (.int .i64 x0_0) := n_u7.cell b0'
  have b1_u7 : u7.cell? ⟨w.heap.size, 1, none⟩ = some (.int .i64 x0_1) := n_u7.cell b1'
  have Ku7 : NH w u7 := Ku6.new n_u7
  have n7 := nh_new n_u7
  have zu7 : u6.heap.size ≤ u7.heap.size := n_u7.size
  clear n_u7 b0' b1' b0_u6 b1_u6
  go_wp2
  intro hn7
  refine gc_seq (gc_code plain_shut rfl ⟨_, Try.func7⟩ (by kernel_rfl) rfl hn7 fun K R hK hR τ => ?_)
  clear hR
  go_wp2
  intro _
  refine GoesC.wt ?_ _ _
  refine gc_seq (gc_code plain_shut rfl ⟨_, Try.func7⟩ (by kernel_rfl) rfl hn7 fun K R hK hR τ => ?_)
  clear hR
  go_wp2
  intro _
  refine GoesC.wt ?_ _ _
  refine gc_seq (gc_region ?_)
  refine gc_val (v := .agg #[.int .i64 x0_0, .int .i64 x0_1]) rfl (by rfl) rfl (by rfl) hn7 (by intro τ d; have q0 : (Meta.wt u7 τ d).cell? ⟨w.heap.size, 0, none⟩ = some (.int .i64 x0_0) := b0_u7; have q1 : (Meta.wt u7 τ d).cell? ⟨w.heap.size, 1, none⟩ = some (.int .i64 x0_1) := b1_u7; simp [execOp, go_sem, q0, q1]) ?_
  refine gc_act (a' := ⟨#[.agg #[.int .i64 x0_0, .int .i64 x0_1], .int .i64 x1, .pointer (some ⟨w.heap.size, 0, none⟩), undef, .bool false, .slice p0a p0n p0c, .bool (moB x0_0 x0_1 x1), .slice g0a g0n g0c, .bool (moB x0_0 x0_1 x1), .int .i64 (1 + (g0n : Int)), .int .i64 (1 + (g0n : Int)), undef, undef, .tuple #[.slice p0a p0n p0c, .bool (moB x0_0 x0_1 x1)], .agg #[.int .i64 x0_0, .int .i64 x0_1], .agg #[.int .i64 x0_0, .int .i64 x0_1], .int .i64 x1, .tuple #[.slice p0a p0n p0c, .bool (moB x0_0 x0_1 x1)], .slice p0a p0n p0c, .bool (moB x0_0 x0_1 x1), .tuple #[.slice g0a g0n g0c, .bool (moB x0_0 x0_1 x1)], .agg #[.int .i64 x0_0, .int .i64 x0_1], .agg #[.int .i64 x0_0, .int .i64 x0_1], .int .i64 x1, .tuple #[.slice g0a g0n g0c, .bool (moB x0_0 x0_1 x1)], .slice g0a g0n g0c, .bool (moB x0_0 x0_1 x1), .slice g0a g0n g0c, .slice p0a p0n p0c, .bool true, .bool false, .bool false, .bool (moB x0_0 x0_1 x1), .bool (moB x0_0 x0_1 x1), .bool false, .bool false, .slice g0a g0n g0c, .int .i64 (1), .int .i64 (1 + (g0n : Int)), .slice g0a g0n g0c, .int .i64 (1), .int .i64 (1 + (g0n : Int)), .int .i64 (1 + (g0n : Int)), .bool false, .int .i64 (1 + (g0n : Int)), .int .i64 (1 + (g0n : Int)), .bool false, undef, .agg #[.int .i64 x0_0, .int .i64 x0_1], undef, undef, undef, undef, undef, undef, undef, undef, undef, undef, undef, undef, undef, undef, undef, undef, undef, undef, undef, undef, undef, undef], []⟩) rfl ?_
  refine gc_call rfl (by rfl) rfl rfl Try.func10 (by rfl) rfl hn7 (Post := fun q q' => q = .agg #[.int .i64 x0_0, .int .i64 x0_1] ∧ NH u7 q') ?_ fun q u8 hp hn8 => ?_
  · have hh : Array.map (Act.eval ⟨#[.agg #[.int .i64 x0_0, .int .i64 x0_1], .int .i64 x1, .pointer (some ⟨w.heap.size, 0, none⟩), undef, .bool false, .slice p0a p0n p0c, .bool (moB x0_0 x0_1 x1), .slice g0a g0n g0c, .bool (moB x0_0 x0_1 x1), .int .i64 (1 + (g0n : Int)), .int .i64 (1 + (g0n : Int)), undef, undef, .tuple #[.slice p0a p0n p0c, .bool (moB x0_0 x0_1 x1)], .agg #[.int .i64 x0_0, .int .i64 x0_1], .agg #[.int .i64 x0_0, .int .i64 x0_1], .int .i64 x1, .tuple #[.slice p0a p0n p0c, .bool (moB x0_0 x0_1 x1)], .slice p0a p0n p0c, .bool (moB x0_0 x0_1 x1), .tuple #[.slice g0a g0n g0c, .bool (moB x0_0 x0_1 x1)], .agg #[.int .i64 x0_0, .int .i64 x0_1], .agg #[.int .i64 x0_0, .int .i64 x0_1], .int .i64 x1, .tuple #[.slice g0a g0n g0c, .bool (moB x0_0 x0_1 x1)], .slice g0a g0n g0c, .bool (moB x0_0 x0_1 x1), .slice g0a g0n g0c, .slice p0a p0n p0c, .bool true, .bool false, .bool false, .bool (moB x0_0 x0_1 x1), .bool (moB x0_0 x0_1 x1), .bool false, .bool false, .slice g0a g0n g0c, .int .i64 (1), .int .i64 (1 + (g0n : Int)), .slice g0a g0n g0c, .int .i64 (1), .int .i64 (1 + (g0n : Int)), .int .i64 (1 + (g0n : Int)), .bool false, .int .i64 (1 + (g0n : Int)), .int .i64 (1 + (g0n : Int)), .bool false, undef, .agg #[.int .i64 x0_0, .int .i64 x0_1], undef, undef, undef, undef, undef, undef, undef, undef, undef, undef, undef, undef, undef, undef, undef, undef, undef, undef, undef, undef, undef, undef], []⟩) #[Operand.tmp 48] = #[.agg #[.int .i64 x0_0, .int .i64 x0_1]] := by simp [Act.eval]
    rw [hh]
    exact toClock_c _ _ _
  obtain ⟨rfl, n_u8⟩ := hp
  have b0_u8 : u8.cell? ⟨w.heap.size, 0, none⟩ = some (.int .i64 x0_0) := n_u8.cell b0_u7
  have b1_u8 : u8.cell? ⟨w.heap.size, 1, none⟩ = some (.int .i64 x0_1) := n_u8.cell b1_u7
  have Ku8 : NH w u8 := Ku7.trans n_u8
  have zu8 : u7.heap.size ≤ u8.heap.size := n_u8.sz
  refine gc_act (a' := ⟨#[.agg #[.int .i64 x0_0, .int .i64 x0_1], .int .i64 x1, .pointer (some ⟨w.heap.size, 0, none⟩), undef, .bool false, .slice p0a p0n p0c, .bool (moB x0_0 x0_1 x1), .slice g0a g0n g0c, .bool (moB x0_0 x0_1 x1), .int .i64 (1 + (g0n : Int)), .int .i64 (1 + (g0n : Int)), undef, undef, .tuple #[.slice p0a p0n p0c, .bool (moB x0_0 x0_1 x1)], .agg #[.int .i64 x0_0, .int .i64 x0_1], .agg #[.int .i64 x0_0, .int .i64 x0_1], .int .i64 x1, .tuple #[.slice p0a p0n p0c, .bool (moB x0_0 x0_1 x1)], .slice p0a p0n p0c, .bool (moB x0_0 x0_1 x1), .tuple #[.slice g0a g0n g0c, .bool (moB x0_0 x0_1 x1)], .agg #[.int .i64 x0_0, .int .i64 x0_1], .agg #[.int .i64 x0_0, .int .i64 x0_1], .int .i64 x1, .tuple #[.slice g0a g0n g0c, .bool (moB x0_0 x0_1 x1)], .slice g0a g0n g0c, .bool (moB x0_0 x0_1 x1), .slice g0a g0n g0c, .slice p0a p0n p0c, .bool true, .bool false, .bool false, .bool (moB x0_0 x0_1 x1), .bool (moB x0_0 x0_1 x1), .bool false, .bool false, .slice g0a g0n g0c, .int .i64 (1), .int .i64 (1 + (g0n : Int)), .slice g0a g0n g0c, .int .i64 (1), .int .i64 (1 + (g0n : Int)), .int .i64 (1 + (g0n : Int)), .bool false, .int .i64 (1 + (g0n : Int)), .int .i64 (1 + (g0n : Int)), .bool false, undef, .agg #[.int .i64 x0_0, .int .i64 x0_1], .agg #[.int .i64 x0_0, .int .i64 x0_1], undef, undef, undef, undef, undef, undef, undef, undef, undef, undef, undef, undef, undef, undef, undef, undef, undef, undef, undef, undef, undef], []⟩) rfl ?_
  refine gc_move rfl (by rfl) rfl hn8 rfl ?_
  refine gc_act (a' := ⟨#[.agg #[.int .i64 x0_0, .int .i64 x0_1], .int .i64 x1, .pointer (some ⟨w.heap.size, 0, none⟩), undef, .bool false, .slice p0a p0n p0c, .bool (moB x0_0 x0_1 x1), .slice g0a g0n g0c, .bool (moB x0_0 x0_1 x1), .int .i64 (1 + (g0n : Int)), .int .i64 (1 + (g0n : Int)), undef, undef, .tuple #[.slice p0a p0n p0c, .bool (moB x0_0 x0_1 x1)], .agg #[.int .i64 x0_0, .int .i64 x0_1], .agg #[.int .i64 x0_0, .int .i64 x0_1], .int .i64 x1, .tuple #[.slice p0a p0n p0c, .bool (moB x0_0 x0_1 x1)], .slice p0a p0n p0c, .bool (moB x0_0 x0_1 x1), .tuple #[.slice g0a g0n g0c, .bool (moB x0_0 x0_1 x1)], .agg #[.int .i64 x0_0, .int .i64 x0_1], .agg #[.int .i64 x0_0, .int .i64 x0_1], .int .i64 x1, .tuple #[.slice g0a g0n g0c, .bool (moB x0_0 x0_1 x1)], .slice g0a g0n g0c, .bool (moB x0_0 x0_1 x1), .slice g0a g0n g0c, .slice p0a p0n p0c, .bool true, .bool false, .bool false, .bool (moB x0_0 x0_1 x1), .bool (moB x0_0 x0_1 x1), .bool false, .bool false, .slice g0a g0n g0c, .int .i64 (1), .int .i64 (1 + (g0n : Int)), .slice g0a g0n g0c, .int .i64 (1), .int .i64 (1 + (g0n : Int)), .int .i64 (1 + (g0n : Int)), .bool false, .int .i64 (1 + (g0n : Int)), .int .i64 (1 + (g0n : Int)), .bool false, undef, .agg #[.int .i64 x0_0, .int .i64 x0_1], .agg #[.int .i64 x0_0, .int .i64 x0_1], .int .i64 x1, undef, undef, undef, undef, undef, undef, undef, undef, undef, undef, undef, undef, undef, undef, undef, undef, undef, undef, undef, undef], []⟩) rfl ?_
  refine gc_call rfl (by rfl) rfl rfl Try.func23 (by rfl) rfl hn8 (Post := fun q q' => ∃ oa n oc, q = .tuple #[.slice oa n oc, .bool (moB x0_0 x0_1 x1)] ∧ Own q' u8.heap.size q'.heap.size oa n oc (moM x0_0 x0_1 x1) ∧ NH u8 q') ?_ fun q u9 hp hn9 => ?_
  · have hh : Array.map (Act.eval ⟨#[.agg #[.int .i64 x0_0, .int .i64 x0_1], .int .i64 x1, .pointer (some ⟨w.heap.size, 0, none⟩), undef, .bool false, .slice p0a p0n p0c, .bool (moB x0_0 x0_1 x1), .slice g0a g0n g0c, .bool (moB x0_0 x0_1 x1), .int .i64 (1 + (g0n : Int)), .int .i64 (1 + (g0n : Int)), undef, undef, .tuple #[.slice p0a p0n p0c, .bool (moB x0_0 x0_1 x1)], .agg #[.int .i64 x0_0, .int .i64 x0_1], .agg #[.int .i64 x0_0, .int .i64 x0_1], .int .i64 x1, .tuple #[.slice p0a p0n p0c, .bool (moB x0_0 x0_1 x1)], .slice p0a p0n p0c, .bool (moB x0_0 x0_1 x1), .tuple #[.slice g0a g0n g0c, .bool (moB x0_0 x0_1 x1)], .agg #[.int .i64 x0_0, .int .i64 x0_1], .agg #[.int .i64 x0_0, .int .i64 x0_1], .int .i64 x1, .tuple #[.slice g0a g0n g0c, .bool (moB x0_0 x0_1 x1)], .slice g0a g0n g0c, .bool (moB x0_0 x0_1 x1), .slice g0a g0n g0c, .slice p0a p0n p0c, .bool true, .bool false, .bool false, .bool (moB x0_0 x0_1 x1), .bool (moB x0_0 x0_1 x1), .bool false, .bool false, .slice g0a g0n g0c, .int .i64 (1), .int .i64 (1 + (g0n : Int)), .slice g0a g0n g0c, .int .i64 (1), .int .i64 (1 + (g0n : Int)), .int .i64 (1 + (g0n : Int)), .bool false, .int .i64 (1 + (g0n : Int)), .int .i64 (1 + (g0n : Int)), .bool false, undef, .agg #[.int .i64 x0_0, .int .i64 x0_1], .agg #[.int .i64 x0_0, .int .i64 x0_1], .int .i64 x1, undef, undef, undef, undef, undef, undef, undef, undef, undef, undef, undef, undef, undef, undef, undef, undef, undef, undef, undef, undef], []⟩) #[Operand.tmp 49, Operand.tmp 50] = #[.agg #[.int .i64 x0_0, .int .i64 x0_1], .int .i64 x1] := by simp [Act.eval]
    rw [hh]
    exact iMarksOf_any _ _ _ _
  obtain ⟨f0a, f0n, f0c, rfl, of0, n_u9⟩ := hp
  have b0_u9 : u9.cell? ⟨w.heap.size, 0, none⟩ = some (.int .i64 x0_0) := n_u9.cell b0_u8
  have b1_u9 : u9.cell? ⟨w.heap.size, 1, none⟩ = some (.int .i64 x0_1) := n_u9.cell b1_u8
  have Ku9 : NH w u9 := Ku8.trans n_u9
  have zu9 : u8.heap.size ≤ u9.heap.size := n_u9.sz
  have Of0 := Lib.hid of0; clear of0
  refine gc_act (a' := ⟨#[.agg #[.int .i64 x0_0, .int .i64 x0_1], .int .i64 x1, .pointer (some ⟨w.heap.size, 0, none⟩), undef, .bool false, .slice p0a p0n p0c, .bool (moB x0_0 x0_1 x1), .slice g0a g0n g0c, .bool (moB x0_0 x0_1 x1), .int .i64 (1 + (g0n : Int)), .int .i64 (1 + (g0n : Int)), undef, undef, .tuple #[.slice p0a p0n p0c, .bool (moB x0_0 x0_1 x1)], .agg #[.int .i64 x0_0, .int .i64 x0_1], .agg #[.int .i64 x0_0, .int .i64 x0_1], .int .i64 x1, .tuple #[.slice p0a p0n p0c, .bool (moB x0_0 x0_1 x1)], .slice p0a p0n p0c, .bool (moB x0_0 x0_1 x1), .tuple #[.slice g0a g0n g0c, .bool (moB x0_0 x0_1 x1)], .agg #[.int .i64 x0_0, .int .i64 x0_1], .agg #[.int .i64 x0_0, .int .i64 x0_1], .int .i64 x1, .tuple #[.slice g0a g0n g0c, .bool (moB x0_0 x0_1 x1)], .slice g0a g0n g0c, .bool (moB x0_0 x0_1 x1), .slice g0a g0n g0c, .slice p0a p0n p0c, .bool true, .bool false, .bool false, .bool (moB x0_0 x0_1 x1), .bool (moB x0_0 x0_1 x1), .bool false, .bool false, .slice g0a g0n g0c, .int .i64 (1), .int .i64 (1 + (g0n : Int)), .slice g0a g0n g0c, .int .i64 (1), .int .i64 (1 + (g0n : Int)), .int .i64 (1 + (g0n : Int)), .bool false, .int .i64 (1 + (g0n : Int)), .int .i64 (1 + (g0n : Int)), .bool false, undef, .agg #[.int .i64 x0_0, .int .i64 x0_1], .agg #[.int .i64 x0_0, .int .i64 x0_1], .int .i64 x1, .tuple #[.slice f0a f0n f0c, .bool (moB x0_0 x0_1 x1)], undef, undef, undef, undef, undef, undef, undef, undef, undef, undef, undef, undef, undef, undef, undef, undef, undef, undef, undef], []⟩) rfl ?_
  refine gc_move rfl (by rfl) rfl hn9 rfl ?_
  refine gc_act (a' := ⟨#[.agg #[.int .i64 x0_0, .int .i64 x0_1], .int .i64 x1, .pointer (some ⟨w.heap.size, 0, none⟩), undef, .bool false, .slice p0a p0n p0c, .bool (moB x0_0 x0_1 x1), .slice g0a g0n g0c, .bool (moB x0_0 x0_1 x1), .int .i64 (1 + (g0n : Int)), .int .i64 (1 + (g0n : Int)), undef, undef, .tuple #[.slice p0a p0n p0c, .bool (moB x0_0 x0_1 x1)], .agg #[.int .i64 x0_0, .int .i64 x0_1], .agg #[.int .i64 x0_0, .int .i64 x0_1], .int .i64 x1, .tuple #[.slice p0a p0n p0c, .bool (moB x0_0 x0_1 x1)], .slice p0a p0n p0c, .bool (moB x0_0 x0_1 x1), .tuple #[.slice g0a g0n g0c, .bool (moB x0_0 x0_1 x1)], .agg #[.int .i64 x0_0, .int .i64 x0_1], .agg #[.int .i64 x0_0, .int .i64 x0_1], .int .i64 x1, .tuple #[.slice g0a g0n g0c, .bool (moB x0_0 x0_1 x1)], .slice g0a g0n g0c, .bool (moB x0_0 x0_1 x1), .slice g0a g0n g0c, .slice p0a p0n p0c, .bool true, .bool false, .bool false, .bool (moB x0_0 x0_1 x1), .bool (moB x0_0 x0_1 x1), .bool false, .bool false, .slice g0a g0n g0c, .int .i64 (1), .int .i64 (1 + (g0n : Int)), .slice g0a g0n g0c, .int .i64 (1), .int .i64 (1 + (g0n : Int)), .int .i64 (1 + (g0n : Int)), .bool false, .int .i64 (1 + (g0n : Int)), .int .i64 (1 + (g0n : Int)), .bool false, .tuple #[.slice f0a f0n f0c, .bool (moB x0_0 x0_1 x1)], .agg #[.int .i64 x0_0, .int .i64 x0_1], .agg #[.int .i64 x0_0, .int .i64 x0_1], .int .i64 x1, .tuple #[.slice f0a f0n f0c, .bool (moB x0_0 x0_1 x1)], undef, undef, undef, undef, undef, undef, undef, undef, undef, undef, undef, undef, undef, undef, undef, undef, undef, undef, undef], []⟩) rfl ?_
  refine gc_val (v := .slice f0a f0n f0c) rfl (by rfl) rfl (by rfl) hn9 (by intro τ d; simp [execOp, go_sem]) ?_
  refine gc_act (a' := ⟨#[.agg #[.int .i64 x0_0, .int .i64 x0_1], .int .i64 x1, .pointer (some ⟨w.heap.size, 0, none⟩), undef, .bool false, .slice p0a p0n p0c, .bool (moB x0_0 x0_1 x1), .slice g0a g0n g0c, .bool (moB x0_0 x0_1 x1), .int .i64 (1 + (g0n : Int)), .int .i64 (1 + (g0n : Int)), undef, undef, .tuple #[.slice p0a p0n p0c, .bool (moB x0_0 x0_1 x1)], .agg #[.int .i64 x0_0, .int .i64 x0_1], .agg #[.int .i64 x0_0, .int .i64 x0_1], .int .i64 x1, .tuple #[.slice p0a p0n p0c, .bool (moB x0_0 x0_1 x1)], .slice p0a p0n p0c, .bool (moB x0_0 x0_1 x1), .tuple #[.slice g0a g0n g0c, .bool (moB x0_0 x0_1 x1)], .agg #[.int .i64 x0_0, .int .i64 x0_1], .agg #[.int .i64 x0_0, .int .i64 x0_1], .int .i64 x1, .tuple #[.slice g0a g0n g0c, .bool (moB x0_0 x0_1 x1)], .slice g0a g0n g0c, .bool (moB x0_0 x0_1 x1), .slice g0a g0n g0c, .slice p0a p0n p0c, .bool true, .bool false, .bool false, .bool (moB x0_0 x0_1 x1), .bool (moB x0_0 x0_1 x1), .bool false, .bool false, .slice g0a g0n g0c, .int .i64 (1), .int .i64 (1 + (g0n : Int)), .slice g0a g0n g0c, .int .i64 (1), .int .i64 (1 + (g0n : Int)), .int .i64 (1 + (g0n : Int)), .bool false, .int .i64 (1 + (g0n : Int)), .int .i64 (1 + (g0n : Int)), .bool false, .tuple #[.slice f0a f0n f0c, .bool (moB x0_0 x0_1 x1)], .agg #[.int .i64 x0_0, .int .i64 x0_1], .agg #[.int .i64 x0_0, .int .i64 x0_1], .int .i64 x1, .tuple #[.slice f0a f0n f0c, .bool (moB x0_0 x0_1 x1)], .slice f0a f0n f0c, undef, undef, undef, undef, undef, undef, undef, undef, undef, undef, undef, undef, undef, undef, undef, undef, undef, undef], []⟩) rfl ?_
  refine gc_val (v := .bool (moB x0_0 x0_1 x1)) rfl (by rfl) rfl (by rfl) hn9 (by intro τ d; simp [execOp, go_sem]) ?_
  refine gc_act (a' := ⟨#[.agg #[.int .i64 x0_0, .int .i64 x0_1], .int .i64 x1, .pointer (some ⟨w.heap.size, 0, none⟩), undef, .bool false, .slice p0a p0n p0c, .bool (moB x0_0 x0_1 x1), .slice g0a g0n g0c, .bool (moB x0_0 x0_1 x1), .int .i64 (1 + (g0n : Int)), .int .i64 (1 + (g0n : Int)), undef, undef, .tuple #[.slice p0a p0n p0c, .bool (moB x0_0 x0_1 x1)], .agg #[.int .i64 x0_0, .int .i64 x0_1], .agg #[.int .i64 x0_0, .int .i64 x0_1], .int .i64 x1, .tuple #[.slice p0a p0n p0c, .bool (moB x0_0 x0_1 x1)], .slice p0a p0n p0c, .bool (moB x0_0 x0_1 x1), .tuple #[.slice g0a g0n g0c, .bool (moB x0_0 x0_1 x1)], .agg #[.int .i64 x0_0, .int .i64 x0_1], .agg #[.int .i64 x0_0, .int .i64 x0_1], .int .i64 x1, .tuple #[.slice g0a g0n g0c, .bool (moB x0_0 x0_1 x1)], .slice g0a g0n g0c, .bool (moB x0_0 x0_1 x1), .slice g0a g0n g0c, .slice p0a p0n p0c, .bool true, .bool false, .bool false, .bool (moB x0_0 x0_1 x1), .bool (moB x0_0 x0_1 x1), .bool false, .bool false, .slice g0a g0n g0c, .int .i64 (1), .int .i64 (1 + (g0n : Int)), .slice g0a g0n g0c, .int .i64 (1), .int .i64 (1 + (g0n : Int)), .int .i64 (1 + (g0n : Int)), .bool false, .int .i64 (1 + (g0n : Int)), .int .i64 (1 + (g0n : Int)), .bool false, .tuple #[.slice f0a f0n f0c, .bool (moB x0_0 x0_1 x1)], .agg #[.int .i64 x0_0, .int .i64 x0_1], .agg #[.int .i64 x0_0, .int .i64 x0_1], .int .i64 x1, .tuple #[.slice f0a f0n f0c, .bool (moB x0_0 x0_1 x1)], .slice f0a f0n f0c, .bool (moB x0_0 x0_1 x1), undef, undef, undef, undef, undef, undef, undef, undef, undef, undef, undef, undef, undef, undef, undef, undef, undef], []⟩) rfl ?_
  refine gc_assign rfl (by rfl) rfl hn9 rfl ?_
  refine gc_act (a' := ⟨#[.agg #[.int .i64 x0_0, .int .i64 x0_1], .int .i64 x1, .pointer (some ⟨w.heap.size, 0, none⟩), undef, .bool false, .slice p0a p0n p0c, .bool (moB x0_0 x0_1 x1), .slice g0a g0n g0c, .bool (moB x0_0 x0_1 x1), .int .i64 (1 + (g0n : Int)), .int .i64 (1 + (g0n : Int)), .slice f0a f0n f0c, undef, .tuple #[.slice p0a p0n p0c, .bool (moB x0_0 x0_1 x1)], .agg #[.int .i64 x0_0, .int .i64 x0_1], .agg #[.int .i64 x0_0, .int .i64 x0_1], .int .i64 x1, .tuple #[.slice p0a p0n p0c, .bool (moB x0_0 x0_1 x1)], .slice p0a p0n p0c, .bool (moB x0_0 x0_1 x1), .tuple #[.slice g0a g0n g0c, .bool (moB x0_0 x0_1 x1)], .agg #[.int .i64 x0_0, .int .i64 x0_1], .agg #[.int .i64 x0_0, .int .i64 x0_1], .int .i64 x1, .tuple #[.slice g0a g0n g0c, .bool (moB x0_0 x0_1 x1)], .slice g0a g0n g0c, .bool (moB x0_0 x0_1 x1), .slice g0a g0n g0c, .slice p0a p0n p0c, .bool true, .bool false, .bool false, .bool (moB x0_0 x0_1 x1), .bool (moB x0_0 x0_1 x1), .bool false, .bool false, .slice g0a g0n g0c, .int .i64 (1), .int .i64 (1 + (g0n : Int)), .slice g0a g0n g0c, .int .i64 (1), .int .i64 (1 + (g0n : Int)), .int .i64 (1 + (g0n : Int)), .bool false, .int .i64 (1 + (g0n : Int)), .int .i64 (1 + (g0n : Int)), .bool false, .tuple #[.slice f0a f0n f0c, .bool (moB x0_0 x0_1 x1)], .agg #[.int .i64 x0_0, .int .i64 x0_1], .agg #[.int .i64 x0_0, .int .i64 x0_1], .int .i64 x1, .tuple #[.slice f0a f0n f0c, .bool (moB x0_0 x0_1 x1)], .slice f0a f0n f0c, .bool (moB x0_0 x0_1 x1), undef, undef, undef, undef, undef, undef, undef, undef, undef, undef, undef, undef, undef, undef, undef, undef, undef], []⟩) rfl ?_
  refine gc_assign rfl (by rfl) rfl hn9 rfl ?_
  refine gc_act (a' := ⟨#[.agg #[.int .i64 x0_0, .int .i64 x0_1], .int .i64 x1, .pointer (some ⟨w.heap.size, 0, none⟩), undef, .bool false, .slice p0a p0n p0c, .bool (moB x0_0 x0_1 x1), .slice g0a g0n g0c, .bool (moB x0_0 x0_1 x1), .int .i64 (1 + (g0n : Int)), .int .i64 (1 + (g0n : Int)), .slice f0a f0n f0c, .bool (moB x0_0 x0_1 x1), .tuple #[.slice p0a p0n p0c, .bool (moB x0_0 x0_1 x1)], .agg #[.int .i64 x0_0, .int .i64 x0_1], .agg #[.int .i64 x0_0, .int .i64 x0_1], .int .i64 x1, .tuple #[.slice p0a p0n p0c, .bool (moB x0_0 x0_1 x1)], .slice p0a p0n p0c, .bool (moB x0_0 x0_1 x1), .tuple #[.slice g0a g0n g0c, .bool (moB x0_0 x0_1 x1)], .agg #[.int .i64 x0_0, .int .i64 x0_1], .agg #[.int .i64 x0_0, .int .i64 x0_1], .int .i64 x1, .tuple #[.slice g0a g0n g0c, .bool (moB x0_0 x0_1 x1)], .slice g0a g0n g0c, .bool (moB x0_0 x0_1 x1), .slice g0a g0n g0c, .slice p0a p0n p0c, .bool true, .bool false, .bool false, .bool (moB x0_0 x0_1 x1), .bool (moB x0_0 x0_1 x1), .bool false, .bool false, .slice g0a g0n g0c, .int .i64 (1), .int .i64 (1 + (g0n : Int)), .slice g0a g0n g0c, .int .i64 (1), .int .i64 (1 + (g0n : Int)), .int .i64 (1 + (g0n : Int)), .bool false, .int .i64 (1 + (g0n : Int)), .int .i64 (1 + (g0n : Int)), .bool false, .tuple #[.slice f0a f0n f0c, .bool (moB x0_0 x0_1 x1)], .agg #[.int .i64 x0_0, .int .i64 x0_1], .agg #[.int .i64 x0_0, .int .i64 x0_1], .int .i64 x1, .tuple #[.slice f0a f0n f0c, .bool (moB x0_0 x0_1 x1)], .slice f0a f0n f0c, .bool (moB x0_0 x0_1 x1), undef, undef, undef, undef, undef, undef, undef, undef, undef, undef, undef, undef, undef, undef, undef, undef, undef], []⟩) rfl ?_
  refine gc_nil ?_
  refine gc_seq (gc_code plain_shut rfl ⟨_, Try.func7⟩ (by kernel_rfl) rfl hn9 fun K R hK hR τ => ?_)
  clear hR
  go_wp2_with fail
  refine (eqIntS_same _ _ _ _ _ _ _ _ (Own.wt Of0.out τ 0).ints (Own.wt (Op6.out.nh ((n7.trans n_u8).trans n_u9)) τ 0).ints).mono ?_
  rintro e u10 ⟨rfl, n_u10⟩
  have Ku10 : NH w u10 := Ku9.new n_u10
  have n10 := nh_new n_u10
  clear n_u10
  go_wp2
  intro hn10
  refine gc_seq (gc_code plain_shut rfl ⟨_, Try.func7⟩ (by kernel_rfl) rfl hn10 fun K R hK hR τ => ?_)
  clear hR
  go_wp2
  intro _
  refine GoesC.wt ?_ _ _
  refine gc_seq (gc_code plain_shut rfl ⟨_, Try.func7⟩ (by kernel_rfl) rfl hn10 fun K R hK hR τ => ?_)
  clear hR
  go_wp2_with fail
  refine (heldIntS_new _ _ _ _ _ (Own.wt (Mu6.out.nh (((n7.trans n_u8).trans n_u9).trans n10)) τ 0).ints (by omega) (by omega)).mono ?_
  rintro e u11 ⟨rfl, n_u11⟩
  have Ku11 : NH w u11 := Ku10.new n_u11
  clear n_u11
  go_wp2
  intro hn11
  refine gc_seq (gc_code plain_shut rfl ⟨_, Try.func7⟩ (by kernel_rfl) rfl hn11 fun K R hK hR τ => ?_)
  clear hR
  go_wp2
  intro _
  refine GoesC.wt ?_ _ _
  refine gc_seq (gc_code plain_shut rfl ⟨_, Try.func7⟩ (by kernel_rfl) rfl hn11 fun K R hK hR τ => ?_)
  clear hR
  go_wp2
  intro _
  refine GoesC.wt ?_ _ _
  refine gc_seq (gc_code plain_shut rfl ⟨_, Try.func7⟩ (by kernel_rfl) rfl hn11 fun K R hK hR τ => ?_)
  clear hR
  go_wp2
  intro _
  refine GoesC.wt ?_ _ _
  refine gc_ret fun todo => ?_
  refine gc_ends rfl rfl Try.func7 (by kernel_rfl) (v := .bool true) (fun w => by simp [results, Try.results7, go_sem]) fun τ d => ⟨rfl, Ku11.wt τ d⟩
end Go.Proofs.Ytnahlemchajfdaa
