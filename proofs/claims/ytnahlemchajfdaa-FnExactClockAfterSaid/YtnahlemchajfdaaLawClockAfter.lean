/- The law of ClockAfter. -/
import Derived.Test.YtnahlemchajfdaaTk3
import Derived.Test.YtnahlemchajfdaaCa
import Derived.Test.YtnahlemchajfdaaCai
namespace Go.Proofs.Ytnahlemchajfdaa
open Go.Conc Go.RowKit Go.IntWalk Go.Proofs.Ytnahlemchajfdaa.Meta

set_option maxRecDepth 100000 in
set_option maxHeartbeats 20000000 in
theorem law_ClockAfter (w : World) (x0_0 x0_1 x1 : Int) (hn : NPW w) :
    GoesC Try.prog (EndsW Try.prog fun v w' => v = .bool true ∧ NH w w') (G (Frame.enter Try.prog 3 #[.agg #[.int .i64 x0_0, .int .i64 x0_1], .int .i64 x1] .normal) []) w := by
  rw [enter_at _ Try.func3 rfl]
  refine gc_act (a' := ⟨#[.agg #[.int .i64 x0_0, .int .i64 x0_1], .int .i64 x1, undef, undef, undef, undef, undef, undef, undef, undef, undef, undef, undef, undef, undef, undef, undef, undef, undef, undef, undef, undef, undef, undef, undef, undef, undef, undef, undef, undef, undef, undef], []⟩) (by simp only [Try.ntmps3, List.size_toArray, List.length_cons, List.length_nil, Nat.reduceAdd, Nat.reduceSub, Array.replicate_succ, Array.replicate_zero, List.push_toArray, List.append_toArray, List.nil_append, List.cons_append]) ?_
  refine gc_seq (gc_code plain_shut rfl ⟨_, Try.func3⟩ (by kernel_rfl) rfl hn fun K R hK hR τ => ?_)
  clear hR
  go_wp2
  intro hn1
  obtain ⟨v0, hv0⟩ : ∃ x, x = ((Meta.wt w τ 0).alloc (Obj.cells #[Value.int IntKind.i64 x0_0, Value.int IntKind.i64 x0_1] 23)) := ⟨_, rfl⟩
  rw [← hv0] at hn1 ⊢
  rw [show (Meta.wt w τ 0).heap.size = w.heap.size from rfl]
  have b0_v0 : v0.cell? ⟨w.heap.size, 0, none⟩ = some (.int .i64 x0_0) := by rw [hv0]; simp [go_sem, Meta.wt]
  have b1_v0 : v0.cell? ⟨w.heap.size, 1, none⟩ = some (.int .i64 x0_1) := by rw [hv0]; simp [go_sem, Meta.wt]
  have K0 : NH w v0 := by rw [hv0]; exact ((NH.refl w).wt τ 0).alloc _
  have zv0 : w.heap.size < v0.heap.size := by rw [hv0]; simp [Meta.wt]
  clear hv0
  refine gc_seq (gc_code plain_shut rfl ⟨_, Try.func3⟩ (by kernel_rfl) rfl hn1 fun K R hK hR τ => ?_)
  clear hR
  have b0' : (Meta.wt v0 τ 0).cell? ⟨w.heap.size, 0, none⟩ = some (.int .i64 x0_0) := b0_v0
  have b1' : (Meta.wt v0 τ 0).cell? ⟨w.heap.size, 1, none⟩ = some (.int .i64 x0_1) := b1_v0
  go_wp2_with fail
  refine (toClock_one _ _ _).mono ?_
  rintro e u1 ⟨rfl, n_u1⟩
  have b0_u1 : u1.cell? ⟨w.heap.size, 0, none⟩ = some (.int .i64 x0_0) := n_u1.cell b0'
  have b1_u1 : u1.cell? ⟨w.heap.size, 1, none⟩ = some (.int .i64 x0_1) := n_u1.cell b1'
  have Ku1 : NH w u1 := K0.new n_u1
  have zu1 : v0.heap.size ≤ u1.heap.size := n_u1.size
  clear n_u1 b0' b1'
  go_wp2_with fail
  refine (sClockAfter_any _ _ _ _).mono ?_
  rintro e u2 ⟨rfl, n_u2⟩
  have b0_u2 : u2.cell? ⟨w.heap.size, 0, none⟩ = some (.int .i64 x0_0) := n_u2.cell b0_u1
  have b1_u2 : u2.cell? ⟨w.heap.size, 1, none⟩ = some (.int .i64 x0_1) := n_u2.cell b1_u1
  have Ku2 : NH w u2 := Ku1.trans (NH.of_new n_u2)
  have zu2 : u1.heap.size ≤ u2.heap.size := n_u2.size
  clear n_u2 b0_u1 b1_u1 b0_v0 b1_v0 hn1
  go_wp2
  intro hn2
  refine gc_world fun v2 hv2 => ?_
  replace hn2 : NPW v2 := by rw [hv2]; exact hn2
  obtain ⟨B, hB⟩ : ∃ B, B = u2.heap.size := ⟨_, rfl⟩
  have d0_v2 : v2.cell? ⟨B, 0, none⟩ = some (.int .i64 (caL x0_0 x0_1 x1)) := by rw [hv2, hB]; simp [go_sem]
  have d1_v2 : v2.cell? ⟨B, 1, none⟩ = some (.int .i64 (caD x0_0 x0_1 x1)) := by rw [hv2, hB]; simp [go_sem]
  have n_v2 : NH u2 v2 := by rw [hv2]; exact ⟨by simp, fun k hk => by first | exact alloc_old hk | (simp [go_sem]; exact alloc_old hk)⟩
  have b0_v2 := n_v2.cell b0_u2
  have b1_v2 := n_v2.cell b1_u2
  have Kv2 : NH w v2 := Ku2.trans n_v2
  rw [← hB]
  clear hv2 n_v2 b0_u2 b1_u2 hB
  refine gc_seq (gc_region ?_)
  refine gc_val (v := .agg #[.int .i64 x0_0, .int .i64 x0_1]) rfl (by rfl) rfl (by rfl) hn2 (by intro τ d; have q0 : (Meta.wt v2 τ d).cell? ⟨w.heap.size, 0, none⟩ = some (.int .i64 x0_0) := b0_v2; have q1 : (Meta.wt v2 τ d).cell? ⟨w.heap.size, 1, none⟩ = some (.int .i64 x0_1) := b1_v2; simp [execOp, go_sem, q0, q1]) ?_
  refine gc_act (a' := ⟨#[.agg #[.int .i64 x0_0, .int .i64 x0_1], .int .i64 x1, .pointer (some ⟨w.heap.size, 0, none⟩), undef, .bool false, .pointer (some ⟨B, 0, none⟩), .bool (caB x0_0 x0_1 x1), undef, undef, .tuple #[.agg #[.int .i64 (caL x0_0 x0_1 x1), .int .i64 (caD x0_0 x0_1 x1)], .bool (caB x0_0 x0_1 x1)], .agg #[.int .i64 x0_0, .int .i64 x0_1], .agg #[.int .i64 x0_0, .int .i64 x0_1], .int .i64 x1, .tuple #[.agg #[.int .i64 (caL x0_0 x0_1 x1), .int .i64 (caD x0_0 x0_1 x1)], .bool (caB x0_0 x0_1 x1)], .agg #[.int .i64 (caL x0_0 x0_1 x1), .int .i64 (caD x0_0 x0_1 x1)], .bool (caB x0_0 x0_1 x1), undef, .agg #[.int .i64 x0_0, .int .i64 x0_1], undef, undef, undef, undef, undef, undef, undef, undef, undef, undef, undef, undef, undef, undef], []⟩) rfl ?_
  refine gc_call rfl (by rfl) rfl rfl Try.func10 (by rfl) rfl hn2 (Post := fun q q' => q = .agg #[.int .i64 x0_0, .int .i64 x0_1] ∧ NH v2 q') ?_ fun q u3 hp hn3 => ?_
  · have hh : Array.map (Act.eval ⟨#[.agg #[.int .i64 x0_0, .int .i64 x0_1], .int .i64 x1, .pointer (some ⟨w.heap.size, 0, none⟩), undef, .bool false, .pointer (some ⟨B, 0, none⟩), .bool (caB x0_0 x0_1 x1), undef, undef, .tuple #[.agg #[.int .i64 (caL x0_0 x0_1 x1), .int .i64 (caD x0_0 x0_1 x1)], .bool (caB x0_0 x0_1 x1)], .agg #[.int .i64 x0_0, .int .i64 x0_1], .agg #[.int .i64 x0_0, .int .i64 x0_1], .int .i64 x1, .tuple #[.agg #[.int .i64 (caL x0_0 x0_1 x1), .int .i64 (caD x0_0 x0_1 x1)], .bool (caB x0_0 x0_1 x1)], .agg #[.int .i64 (caL x0_0 x0_1 x1), .int .i64 (caD x0_0 x0_1 x1)], .bool (caB x0_0 x0_1 x1), undef, .agg #[.int .i64 x0_0, .int .i64 x0_1], undef, undef, undef, undef, undef, undef, undef, undef, undef, undef, undef, undef, undef, undef], []⟩) #[Operand.tmp 17] = #[.agg #[.int .i64 x0_0, .int .i64 x0_1]] := by simp [Act.eval]
    rw [hh]
    exact toClock_c _ _ _
  obtain ⟨rfl, n_u3⟩ := hp
  have b0_u3 : u3.cell? ⟨w.heap.size, 0, none⟩ = some (.int .i64 x0_0) := n_u3.cell b0_v2
  have b1_u3 : u3.cell? ⟨w.heap.size, 1, none⟩ = some (.int .i64 x0_1) := n_u3.cell b1_v2
  have d0_u3 := n_u3.cell d0_v2
  have d1_u3 := n_u3.cell d1_v2
  have Ku3 : NH w u3 := Kv2.trans n_u3
  refine gc_act (a' := ⟨#[.agg #[.int .i64 x0_0, .int .i64 x0_1], .int .i64 x1, .pointer (some ⟨w.heap.size, 0, none⟩), undef, .bool false, .pointer (some ⟨B, 0, none⟩), .bool (caB x0_0 x0_1 x1), undef, undef, .tuple #[.agg #[.int .i64 (caL x0_0 x0_1 x1), .int .i64 (caD x0_0 x0_1 x1)], .bool (caB x0_0 x0_1 x1)], .agg #[.int .i64 x0_0, .int .i64 x0_1], .agg #[.int .i64 x0_0, .int .i64 x0_1], .int .i64 x1, .tuple #[.agg #[.int .i64 (caL x0_0 x0_1 x1), .int .i64 (caD x0_0 x0_1 x1)], .bool (caB x0_0 x0_1 x1)], .agg #[.int .i64 (caL x0_0 x0_1 x1), .int .i64 (caD x0_0 x0_1 x1)], .bool (caB x0_0 x0_1 x1), undef, .agg #[.int .i64 x0_0, .int .i64 x0_1], .agg #[.int .i64 x0_0, .int .i64 x0_1], undef, undef, undef, undef, undef, undef, undef, undef, undef, undef, undef, undef, undef], []⟩) rfl ?_
  refine gc_move rfl (by rfl) rfl hn3 rfl ?_
  refine gc_act (a' := ⟨#[.agg #[.int .i64 x0_0, .int .i64 x0_1], .int .i64 x1, .pointer (some ⟨w.heap.size, 0, none⟩), undef, .bool false, .pointer (some ⟨B, 0, none⟩), .bool (caB x0_0 x0_1 x1), undef, undef, .tuple #[.agg #[.int .i64 (caL x0_0 x0_1 x1), .int .i64 (caD x0_0 x0_1 x1)], .bool (caB x0_0 x0_1 x1)], .agg #[.int .i64 x0_0, .int .i64 x0_1], .agg #[.int .i64 x0_0, .int .i64 x0_1], .int .i64 x1, .tuple #[.agg #[.int .i64 (caL x0_0 x0_1 x1), .int .i64 (caD x0_0 x0_1 x1)], .bool (caB x0_0 x0_1 x1)], .agg #[.int .i64 (caL x0_0 x0_1 x1), .int .i64 (caD x0_0 x0_1 x1)], .bool (caB x0_0 x0_1 x1), undef, .agg #[.int .i64 x0_0, .int .i64 x0_1], .agg #[.int .i64 x0_0, .int .i64 x0_1], .int .i64 x1, undef, undef, undef, undef, undef, undef, undef, undef, undef, undef, undef, undef], []⟩) rfl ?_
  refine gc_call rfl (by rfl) rfl rfl Try.func11 (by rfl) rfl hn3 (Post := fun q q' => q = .tuple #[.agg #[.int .i64 (caL x0_0 x0_1 x1), .int .i64 (caD x0_0 x0_1 x1)], .bool (caB x0_0 x0_1 x1)] ∧ NH u3 q') ?_ fun q u4 hp hn4 => ?_
  · have hh : Array.map (Act.eval ⟨#[.agg #[.int .i64 x0_0, .int .i64 x0_1], .int .i64 x1, .pointer (some ⟨w.heap.size, 0, none⟩), undef, .bool false, .pointer (some ⟨B, 0, none⟩), .bool (caB x0_0 x0_1 x1), undef, undef, .tuple #[.agg #[.int .i64 (caL x0_0 x0_1 x1), .int .i64 (caD x0_0 x0_1 x1)], .bool (caB x0_0 x0_1 x1)], .agg #[.int .i64 x0_0, .int .i64 x0_1], .agg #[.int .i64 x0_0, .int .i64 x0_1], .int .i64 x1, .tuple #[.agg #[.int .i64 (caL x0_0 x0_1 x1), .int .i64 (caD x0_0 x0_1 x1)], .bool (caB x0_0 x0_1 x1)], .agg #[.int .i64 (caL x0_0 x0_1 x1), .int .i64 (caD x0_0 x0_1 x1)], .bool (caB x0_0 x0_1 x1), undef, .agg #[.int .i64 x0_0, .int .i64 x0_1], .agg #[.int .i64 x0_0, .int .i64 x0_1], .int .i64 x1, undef, undef, undef, undef, undef, undef, undef, undef, undef, undef, undef, undef], []⟩) #[Operand.tmp 18, Operand.tmp 19] = #[.agg #[.int .i64 x0_0, .int .i64 x0_1], .int .i64 x1] := by simp [Act.eval]
    rw [hh]
    exact iClockAfter_any _ _ _ _
  obtain ⟨rfl, n_u4⟩ := hp
  have b0_u4 : u4.cell? ⟨w.heap.size, 0, none⟩ = some (.int .i64 x0_0) := n_u4.cell b0_u3
  have b1_u4 : u4.cell? ⟨w.heap.size, 1, none⟩ = some (.int .i64 x0_1) := n_u4.cell b1_u3
  have d0_u4 := n_u4.cell d0_u3
  have d1_u4 := n_u4.cell d1_u3
  have Ku4 : NH w u4 := Ku3.trans n_u4
  refine gc_act (a' := ⟨#[.agg #[.int .i64 x0_0, .int .i64 x0_1], .int .i64 x1, .pointer (some ⟨w.heap.size, 0, none⟩), undef, .bool false, .pointer (some ⟨B, 0, none⟩), .bool (caB x0_0 x0_1 x1), undef, undef, .tuple #[.agg #[.int .i64 (caL x0_0 x0_1 x1), .int .i64 (caD x0_0 x0_1 x1)], .bool (caB x0_0 x0_1 x1)], .agg #[.int .i64 x0_0, .int .i64 x0_1], .agg #[.int .i64 x0_0, .int .i64 x0_1], .int .i64 x1, .tuple #[.agg #[.int .i64 (caL x0_0 x0_1 x1), .int .i64 (caD x0_0 x0_1 x1)], .bool (caB x0_0 x0_1 x1)], .agg #[.int .i64 (caL x0_0 x0_1 x1), .int .i64 (caD x0_0 x0_1 x1)], .bool (caB x0_0 x0_1 x1), undef, .agg #[.int .i64 x0_0, .int .i64 x0_1], .agg #[.int .i64 x0_0, .int .i64 x0_1], .int .i64 x1, .tuple #[.agg #[.int .i64 (caL x0_0 x0_1 x1), .int .i64 (caD x0_0 x0_1 x1)], .bool (caB x0_0 x0_1 x1)], undef, undef, undef, undef, undef, undef, undef, undef, undef, undef, undef], []⟩) rfl ?_
  refine gc_move rfl (by rfl) rfl hn4 rfl ?_
  refine gc_act (a' := ⟨#[.agg #[.int .i64 x0_0, .int .i64 x0_1], .int .i64 x1, .pointer (some ⟨w.heap.size, 0, none⟩), undef, .bool false, .pointer (some ⟨B, 0, none⟩), .bool (caB x0_0 x0_1 x1), undef, undef, .tuple #[.agg #[.int .i64 (caL x0_0 x0_1 x1), .int .i64 (caD x0_0 x0_1 x1)], .bool (caB x0_0 x0_1 x1)], .agg #[.int .i64 x0_0, .int .i64 x0_1], .agg #[.int .i64 x0_0, .int .i64 x0_1], .int .i64 x1, .tuple #[.agg #[.int .i64 (caL x0_0 x0_1 x1), .int .i64 (caD x0_0 x0_1 x1)], .bool (caB x0_0 x0_1 x1)], .agg #[.int .i64 (caL x0_0 x0_1 x1), .int .i64 (caD x0_0 x0_1 x1)], .bool (caB x0_0 x0_1 x1), .tuple #[.agg #[.int .i64 (caL x0_0 x0_1 x1), .int .i64 (caD x0_0 x0_1 x1)], .bool (caB x0_0 x0_1 x1)], .agg #[.int .i64 x0_0, .int .i64 x0_1], .agg #[.int .i64 x0_0, .int .i64 x0_1], .int .i64 x1, .tuple #[.agg #[.int .i64 (caL x0_0 x0_1 x1), .int .i64 (caD x0_0 x0_1 x1)], .bool (caB x0_0 x0_1 x1)], undef, undef, undef, undef, undef, undef, undef, undef, undef, undef, undef], []⟩) rfl ?_
  refine gc_val (v := .agg #[.int .i64 (caL x0_0 x0_1 x1), .int .i64 (caD x0_0 x0_1 x1)]) rfl (by rfl) rfl (by rfl) hn4 (by intro τ d; simp [execOp, go_sem]) ?_
  refine gc_act (a' := ⟨#[.agg #[.int .i64 x0_0, .int .i64 x0_1], .int .i64 x1, .pointer (some ⟨w.heap.size, 0, none⟩), undef, .bool false, .pointer (some ⟨B, 0, none⟩), .bool (caB x0_0 x0_1 x1), undef, undef, .tuple #[.agg #[.int .i64 (caL x0_0 x0_1 x1), .int .i64 (caD x0_0 x0_1 x1)], .bool (caB x0_0 x0_1 x1)], .agg #[.int .i64 x0_0, .int .i64 x0_1], .agg #[.int .i64 x0_0, .int .i64 x0_1], .int .i64 x1, .tuple #[.agg #[.int .i64 (caL x0_0 x0_1 x1), .int .i64 (caD x0_0 x0_1 x1)], .bool (caB x0_0 x0_1 x1)], .agg #[.int .i64 (caL x0_0 x0_1 x1), .int .i64 (caD x0_0 x0_1 x1)], .bool (caB x0_0 x0_1 x1), .tuple #[.agg #[.int .i64 (caL x0_0 x0_1 x1), .int .i64 (caD x0_0 x0_1 x1)], .bool (caB x0_0 x0_1 x1)], .agg #[.int .i64 x0_0, .int .i64 x0_1], .agg #[.int .i64 x0_0, .int .i64 x0_1], .int .i64 x1, .tuple #[.agg #[.int .i64 (caL x0_0 x0_1 x1), .int .i64 (caD x0_0 x0_1 x1)], .bool (caB x0_0 x0_1 x1)], .agg #[.int .i64 (caL x0_0 x0_1 x1), .int .i64 (caD x0_0 x0_1 x1)], undef, undef, undef, undef, undef, undef, undef, undef, undef, undef], []⟩) rfl ?_
  refine gc_val (v := .bool (caB x0_0 x0_1 x1)) rfl (by rfl) rfl (by rfl) hn4 (by intro τ d; simp [execOp, go_sem]) ?_
  refine gc_act (a' := ⟨#[.agg #[.int .i64 x0_0, .int .i64 x0_1], .int .i64 x1, .pointer (some ⟨w.heap.size, 0, none⟩), undef, .bool false, .pointer (some ⟨B, 0, none⟩), .bool (caB x0_0 x0_1 x1), undef, undef, .tuple #[.agg #[.int .i64 (caL x0_0 x0_1 x1), .int .i64 (caD x0_0 x0_1 x1)], .bool (caB x0_0 x0_1 x1)], .agg #[.int .i64 x0_0, .int .i64 x0_1], .agg #[.int .i64 x0_0, .int .i64 x0_1], .int .i64 x1, .tuple #[.agg #[.int .i64 (caL x0_0 x0_1 x1), .int .i64 (caD x0_0 x0_1 x1)], .bool (caB x0_0 x0_1 x1)], .agg #[.int .i64 (caL x0_0 x0_1 x1), .int .i64 (caD x0_0 x0_1 x1)], .bool (caB x0_0 x0_1 x1), .tuple #[.agg #[.int .i64 (caL x0_0 x0_1 x1), .int .i64 (caD x0_0 x0_1 x1)], .bool (caB x0_0 x0_1 x1)], .agg #[.int .i64 x0_0, .int .i64 x0_1], .agg #[.int .i64 x0_0, .int .i64 x0_1], .int .i64 x1, .tuple #[.agg #[.int .i64 (caL x0_0 x0_1 x1), .int .i64 (caD x0_0 x0_1 x1)], .bool (caB x0_0 x0_1 x1)], .agg #[.int .i64 (caL x0_0 x0_1 x1), .int .i64 (caD x0_0 x0_1 x1)], .bool (caB x0_0 x0_1 x1), undef, undef, undef, undef, undef, undef, undef, undef, undef], []⟩) rfl ?_
  obtain ⟨B2, hB2⟩ : ∃ B2, B2 = u4.heap.size := ⟨_, rfl⟩
  refine gc_new (w1 := u4.alloc (.cells #[.int .i64 0, .int .i64 0] 24)) (v := .pointer (some ⟨B2, 0, none⟩)) rfl (by rfl) rfl (by rfl) hn4 (by intro τ d; rw [hB2]; simp [execOp, go_sem]; exact ⟨rfl, rfl⟩) fun hn5 => ?_
  obtain ⟨u5, hu5⟩ : ∃ z, z = u4.alloc (.cells #[.int .i64 0, .int .i64 0] 24) := ⟨_, rfl⟩
  rw [← hu5] at hn5 ⊢
  have g0 : u5.cell? ⟨B2, 0, none⟩ = some (.int .i64 0) := by rw [hu5, hB2]; simp [go_sem]
  have g1 : u5.cell? ⟨B2, 1, none⟩ = some (.int .i64 0) := by rw [hu5, hB2]; simp [go_sem]
  have p0 : u5.frozen? ⟨B2, 0, none⟩ = false := by rw [hu5, hB2]; simp [go_sem]
  have p1 : u5.frozen? ⟨B2, 1, none⟩ = false := by rw [hu5, hB2]; simp [go_sem]
  have n5 : NH u4 u5 := by rw [hu5]; exact (NH.refl _).alloc _
  have hlt2 : w.heap.size ≤ B2 := by rw [hB2]; exact Ku4.sz
  have hw2 : B < B2 := by have := World.block_lt_of_cell? _ _ d0_u4; simp only at this; omega
  have d0_u5 := n5.cell d0_u4
  have d1_u5 := n5.cell d1_u4
  have Ku5 := Ku4.trans n5
  clear hu5 hB2
  refine gc_act (a' := ⟨#[.agg #[.int .i64 x0_0, .int .i64 x0_1], .int .i64 x1, .pointer (some ⟨w.heap.size, 0, none⟩), undef, .bool false, .pointer (some ⟨B, 0, none⟩), .bool (caB x0_0 x0_1 x1), .pointer (some ⟨B2, 0, none⟩), undef, .tuple #[.agg #[.int .i64 (caL x0_0 x0_1 x1), .int .i64 (caD x0_0 x0_1 x1)], .bool (caB x0_0 x0_1 x1)], .agg #[.int .i64 x0_0, .int .i64 x0_1], .agg #[.int .i64 x0_0, .int .i64 x0_1], .int .i64 x1, .tuple #[.agg #[.int .i64 (caL x0_0 x0_1 x1), .int .i64 (caD x0_0 x0_1 x1)], .bool (caB x0_0 x0_1 x1)], .agg #[.int .i64 (caL x0_0 x0_1 x1), .int .i64 (caD x0_0 x0_1 x1)], .bool (caB x0_0 x0_1 x1), .tuple #[.agg #[.int .i64 (caL x0_0 x0_1 x1), .int .i64 (caD x0_0 x0_1 x1)], .bool (caB x0_0 x0_1 x1)], .agg #[.int .i64 x0_0, .int .i64 x0_1], .agg #[.int .i64 x0_0, .int .i64 x0_1], .int .i64 x1, .tuple #[.agg #[.int .i64 (caL x0_0 x0_1 x1), .int .i64 (caD x0_0 x0_1 x1)], .bool (caB x0_0 x0_1 x1)], .agg #[.int .i64 (caL x0_0 x0_1 x1), .int .i64 (caD x0_0 x0_1 x1)], .bool (caB x0_0 x0_1 x1), undef, undef, undef, undef, undef, undef, undef, undef, undef], []⟩) rfl ?_
  refine gc_eff (w1 := (u5.setCell ⟨B2, 0, none⟩ (.int .i64 (caL x0_0 x0_1 x1))).setCell ⟨B2, 1, none⟩ (.int .i64 (caD x0_0 x0_1 x1))) rfl (by rfl) rfl (by rfl) hn5 (by
    intro τ d
    have q0 : (Meta.wt u5 τ d).cell? ⟨B2, 0, none⟩ = some (.int .i64 0) := g0
    have q1 : (Meta.wt u5 τ d).cell? ⟨B2, 1, none⟩ = some (.int .i64 0) := g1
    have q2 : (Meta.wt u5 τ d).frozen? ⟨B2, 0, none⟩ = false := p0
    have q3 : (Meta.wt u5 τ d).frozen? ⟨B2, 1, none⟩ = false := p1
    simp [execOp, go_sem, q0, q1, q2, q3]
    rfl) fun hn6 => ?_
  have e0 : ((u5.setCell ⟨B2, 0, none⟩ (.int .i64 (caL x0_0 x0_1 x1))).setCell ⟨B2, 1, none⟩ (.int .i64 (caD x0_0 x0_1 x1))).cell? ⟨B2, 0, none⟩ = some (.int .i64 (caL x0_0 x0_1 x1)) := by rw [set_other (by simp)]; exact set_same g0
  have e1 : ((u5.setCell ⟨B2, 0, none⟩ (.int .i64 (caL x0_0 x0_1 x1))).setCell ⟨B2, 1, none⟩ (.int .i64 (caD x0_0 x0_1 x1))).cell? ⟨B2, 1, none⟩ = some (.int .i64 (caD x0_0 x0_1 x1)) := set_same (by rw [set_other (by simp)]; exact g1)
  have ch : Chg (fun b => b = B2) u5 ((u5.setCell ⟨B2, 0, none⟩ (.int .i64 (caL x0_0 x0_1 x1))).setCell ⟨B2, 1, none⟩ (.int .i64 (caD x0_0 x0_1 x1))) := (Chg.setCell (p := ⟨B2, 0, none⟩) _).trans (Chg.setCell (p := ⟨B2, 1, none⟩) _)
  generalize (u5.setCell ⟨B2, 0, none⟩ (.int .i64 (caL x0_0 x0_1 x1))).setCell ⟨B2, 1, none⟩ (.int .i64 (caD x0_0 x0_1 x1)) = u6 at hn6 e0 e1 ch ⊢
  have d0_u6 := ch.cell d0_u5 (by simp only; omega)
  have d1_u6 := ch.cell d1_u5 (by simp only; omega)
  have Ku6 : NH w u6 := ⟨Nat.le_trans Ku5.sz ch.size, fun k hk => (ch.block k (Nat.lt_of_lt_of_le hk Ku5.sz) (by omega)).trans (Ku5.old k hk)⟩
  clear g0 g1 p0 p1 ch d0_u5 d1_u5
  refine gc_act (a' := ⟨#[.agg #[.int .i64 x0_0, .int .i64 x0_1], .int .i64 x1, .pointer (some ⟨w.heap.size, 0, none⟩), undef, .bool false, .pointer (some ⟨B, 0, none⟩), .bool (caB x0_0 x0_1 x1), .pointer (some ⟨B2, 0, none⟩), undef, .tuple #[.agg #[.int .i64 (caL x0_0 x0_1 x1), .int .i64 (caD x0_0 x0_1 x1)], .bool (caB x0_0 x0_1 x1)], .agg #[.int .i64 x0_0, .int .i64 x0_1], .agg #[.int .i64 x0_0, .int .i64 x0_1], .int .i64 x1, .tuple #[.agg #[.int .i64 (caL x0_0 x0_1 x1), .int .i64 (caD x0_0 x0_1 x1)], .bool (caB x0_0 x0_1 x1)], .agg #[.int .i64 (caL x0_0 x0_1 x1), .int .i64 (caD x0_0 x0_1 x1)], .bool (caB x0_0 x0_1 x1), .tuple #[.agg #[.int .i64 (caL x0_0 x0_1 x1), .int .i64 (caD x0_0 x0_1 x1)], .bool (caB x0_0 x0_1 x1)], .agg #[.int .i64 x0_0, .int .i64 x0_1], .agg #[.int .i64 x0_0, .int .i64 x0_1], .int .i64 x1, .tuple #[.agg #[.int .i64 (caL x0_0 x0_1 x1), .int .i64 (caD x0_0 x0_1 x1)], .bool (caB x0_0 x0_1 x1)], .agg #[.int .i64 (caL x0_0 x0_1 x1), .int .i64 (caD x0_0 x0_1 x1)], .bool (caB x0_0 x0_1 x1), undef, undef, undef, undef, undef, undef, undef, undef, undef], []⟩) rfl ?_
  refine gc_assign rfl (by rfl) rfl hn6 rfl ?_
  refine gc_act (a' := ⟨#[.agg #[.int .i64 x0_0, .int .i64 x0_1], .int .i64 x1, .pointer (some ⟨w.heap.size, 0, none⟩), undef, .bool false, .pointer (some ⟨B, 0, none⟩), .bool (caB x0_0 x0_1 x1), .pointer (some ⟨B2, 0, none⟩), .bool (caB x0_0 x0_1 x1), .tuple #[.agg #[.int .i64 (caL x0_0 x0_1 x1), .int .i64 (caD x0_0 x0_1 x1)], .bool (caB x0_0 x0_1 x1)], .agg #[.int .i64 x0_0, .int .i64 x0_1], .agg #[.int .i64 x0_0, .int .i64 x0_1], .int .i64 x1, .tuple #[.agg #[.int .i64 (caL x0_0 x0_1 x1), .int .i64 (caD x0_0 x0_1 x1)], .bool (caB x0_0 x0_1 x1)], .agg #[.int .i64 (caL x0_0 x0_1 x1), .int .i64 (caD x0_0 x0_1 x1)], .bool (caB x0_0 x0_1 x1), .tuple #[.agg #[.int .i64 (caL x0_0 x0_1 x1), .int .i64 (caD x0_0 x0_1 x1)], .bool (caB x0_0 x0_1 x1)], .agg #[.int .i64 x0_0, .int .i64 x0_1], .agg #[.int .i64 x0_0, .int .i64 x0_1], .int .i64 x1, .tuple #[.agg #[.int .i64 (caL x0_0 x0_1 x1), .int .i64 (caD x0_0 x0_1 x1)], .bool (caB x0_0 x0_1 x1)], .agg #[.int .i64 (caL x0_0 x0_1 x1), .int .i64 (caD x0_0 x0_1 x1)], .bool (caB x0_0 x0_1 x1), undef, undef, undef, undef, undef, undef, undef, undef, undef], []⟩) rfl ?_
  refine gc_nil ?_
  refine gc_seq (gc_code plain_shut rfl ⟨_, Try.func3⟩ (by kernel_rfl) rfl hn6 fun K R hK hR τ => ?_)
  clear hR
  have q0 : (Meta.wt u6 τ 0).cell? ⟨B, 0, none⟩ = some (.int .i64 (caL x0_0 x0_1 x1)) := d0_u6
  have q1 : (Meta.wt u6 τ 0).cell? ⟨B, 1, none⟩ = some (.int .i64 (caD x0_0 x0_1 x1)) := d1_u6
  have q2 : (Meta.wt u6 τ 0).cell? ⟨B2, 0, none⟩ = some (.int .i64 (caL x0_0 x0_1 x1)) := e0
  have q3 : (Meta.wt u6 τ 0).cell? ⟨B2, 1, none⟩ = some (.int .i64 (caD x0_0 x0_1 x1)) := e1
  go_wp2_with fail
  refine (eqClock_same _ _ _).mono ?_
  rintro e u7 ⟨rfl, n_u7⟩
  have Ku7 : NH w u7 := Ku6.new n_u7
  clear q0 q1 q2 q3
  go_wp2
  intro hn7
  refine gc_seq (gc_code plain_shut rfl ⟨_, Try.func3⟩ (by kernel_rfl) rfl hn7 fun K R hK hR τ => ?_)
  clear hR
  go_wp2
  intro _
  refine GoesC.wt ?_ _ _
  refine gc_ret fun todo => ?_
  refine gc_ends rfl rfl Try.func3 (by kernel_rfl) (v := .bool true) (fun w => by simp [results, Try.results3, go_sem]) fun τ d => ⟨rfl, Ku7.wt τ d⟩
end Go.Proofs.Ytnahlemchajfdaa
