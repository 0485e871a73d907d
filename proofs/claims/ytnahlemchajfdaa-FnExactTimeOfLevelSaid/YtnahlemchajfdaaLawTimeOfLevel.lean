/- The law of TimeOfLevel. -/
import Derived.Test.YtnahlemchajfdaaTk3
import Derived.Test.YtnahlemchajfdaaToi
import Derived.Test.YtnahlemchajfdaaTom
namespace Go.Proofs.Ytnahlemchajfdaa
open Go.Conc Go.RowKit Go.IntWalk Go.Proofs.Ytnahlemchajfdaa.Meta

set_option maxRecDepth 100000 in
set_option maxHeartbeats 20000000 in
theorem law_TimeOfLevel (w : World) (x0_0 x0_1 x1 : Int) (hn : NPW w) :
    GoesC Try.prog (EndsW Try.prog fun v w' => v = .bool true ∧ NH w w') (G (Frame.enter Try.prog 6 #[.agg #[.int .i64 x0_0, .int .i64 x0_1], .int .i64 x1] .normal) []) w := by
  rw [enter_at _ Try.func6 rfl]
  refine gc_act (a' := ⟨#[.agg #[.int .i64 x0_0, .int .i64 x0_1], .int .i64 x1, undef, undef, undef, undef, undef, undef, undef, undef, undef, undef, undef, undef, undef, undef, undef, undef, undef, undef, undef, undef, undef, undef, undef, undef, undef, undef, undef, undef, undef], []⟩) (by simp only [Try.ntmps6, List.size_toArray, List.length_cons, List.length_nil, Nat.reduceAdd, Nat.reduceSub, Array.replicate_succ, Array.replicate_zero, List.push_toArray, List.append_toArray, List.nil_append, List.cons_append]) ?_
  refine gc_seq (gc_code plain_shut rfl ⟨_, Try.func6⟩ (by kernel_rfl) rfl hn fun K R hK hR τ => ?_)
  clear hR
  go_wp2
  intro hn1
  obtain ⟨v0, hv0⟩ : ∃ x, x = ((Meta.wt w τ 0).alloc (Obj.cells #[Value.int IntKind.i64 x0_0, Value.int IntKind.i64 x0_1] 23)) := ⟨_, rfl⟩
  rw [← hv0] at hn1 ⊢
  rw [show (Meta.wt w τ 0).heap.size = w.heap.size from rfl]
  have b0_v0 : v0.cell? ⟨w.heap.size, 0, none⟩ = some (.int .i64 x0_0) := by rw [hv0]; simp [go_sem, Meta.wt]
  have b1_v0 : v0.cell? ⟨w.heap.size, 1, none⟩ = some (.int .i64 x0_1) := by rw [hv0]; simp [go_sem, Meta.wt]
  have K0 : NH w v0 := by rw [hv0]; exact ((NH.refl w).wt τ 0).alloc _
  have zv0 : w.heap.size < v0.heap.size := by rw [hv0]; simp [Meta.wt]
  clear hv0
  refine gc_seq (gc_code plain_shut rfl ⟨_, Try.func6⟩ (by kernel_rfl) rfl hn1 fun K R hK hR τ => ?_)
  clear hR
  have b0' : (Meta.wt v0 τ 0).cell? ⟨w.heap.size, 0, none⟩ = some (.int .i64 x0_0) := b0_v0
  have b1' : (Meta.wt v0 τ 0).cell? ⟨w.heap.size, 1, none⟩ = some (.int .i64 x0_1) := b1_v0
  go_wp2_with fail
  refine (toClock_one _ _ _).mono ?_
  rintro e u1 ⟨rfl, n_u1⟩
  have b0_u1 : u1.cell? ⟨w.heap.size, 0, none⟩ = some (.int .i64 x0_0) := n_u1.cell b0'
  have b1_u1 : u1.cell? ⟨w.heap.size, 1, none⟩ = some (.int .i64 x0_1) := n_u1.cell b1'
  have Ku1 : NH w u1 := K0.new n_u1
  have zu1 : v0.heap.size ≤ u1.heap.size := n_u1.size
  clear n_u1 b0' b1'
  go_wp2_with fail
  refine (sTimeOfLevel_any _ _ _ _).mono ?_
  rintro e u2 ⟨rfl, n_u2⟩
  have b0_u2 : u2.cell? ⟨w.heap.size, 0, none⟩ = some (.int .i64 x0_0) := n_u2.cell b0_u1
  have b1_u2 : u2.cell? ⟨w.heap.size, 1, none⟩ = some (.int .i64 x0_1) := n_u2.cell b1_u1
  have Ku2 : NH w u2 := Ku1.trans (NH.of_new n_u2)
  have zu2 : u1.heap.size ≤ u2.heap.size := n_u2.size
  clear n_u2 b0_u1 b1_u1 b0_v0 b1_v0 hn1
  go_wp2
  intro hn2
  refine gc_seq (gc_region ?_)
  refine gc_val (v := .agg #[.int .i64 x0_0, .int .i64 x0_1]) rfl (by rfl) rfl (by rfl) hn2 (by intro τ d; have q0 : (Meta.wt u2 τ d).cell? ⟨w.heap.size, 0, none⟩ = some (.int .i64 x0_0) := b0_u2; have q1 : (Meta.wt u2 τ d).cell? ⟨w.heap.size, 1, none⟩ = some (.int .i64 x0_1) := b1_u2; simp [execOp, go_sem, q0, q1]) ?_
  refine gc_act (a' := ⟨#[.agg #[.int .i64 x0_0, .int .i64 x0_1], .int .i64 x1, .pointer (some ⟨w.heap.size, 0, none⟩), undef, .bool false, .int .i64 (tlM x0_0 x0_1 x1), .bool (tlB x0_0 x0_1 x1), undef, undef, .tuple #[.int .i64 (tlM x0_0 x0_1 x1), .bool (tlB x0_0 x0_1 x1)], .agg #[.int .i64 x0_0, .int .i64 x0_1], .agg #[.int .i64 x0_0, .int .i64 x0_1], .int .i64 x1, .tuple #[.int .i64 (tlM x0_0 x0_1 x1), .bool (tlB x0_0 x0_1 x1)], .int .i64 (tlM x0_0 x0_1 x1), .bool (tlB x0_0 x0_1 x1), undef, .agg #[.int .i64 x0_0, .int .i64 x0_1], undef, undef, undef, undef, undef, undef, undef, undef, undef, undef, undef, undef, undef], []⟩) rfl ?_
  refine gc_call rfl (by rfl) rfl rfl Try.func10 (by rfl) rfl hn2 (Post := fun q q' => q = .agg #[.int .i64 x0_0, .int .i64 x0_1] ∧ NH u2 q') ?_ fun q u3 hp hn3 => ?_
  · have hh : Array.map (Act.eval ⟨#[.agg #[.int .i64 x0_0, .int .i64 x0_1], .int .i64 x1, .pointer (some ⟨w.heap.size, 0, none⟩), undef, .bool false, .int .i64 (tlM x0_0 x0_1 x1), .bool (tlB x0_0 x0_1 x1), undef, undef, .tuple #[.int .i64 (tlM x0_0 x0_1 x1), .bool (tlB x0_0 x0_1 x1)], .agg #[.int .i64 x0_0, .int .i64 x0_1], .agg #[.int .i64 x0_0, .int .i64 x0_1], .int .i64 x1, .tuple #[.int .i64 (tlM x0_0 x0_1 x1), .bool (tlB x0_0 x0_1 x1)], .int .i64 (tlM x0_0 x0_1 x1), .bool (tlB x0_0 x0_1 x1), undef, .agg #[.int .i64 x0_0, .int .i64 x0_1], undef, undef, undef, undef, undef, undef, undef, undef, undef, undef, undef, undef, undef], []⟩) #[Operand.tmp 17] = #[.agg #[.int .i64 x0_0, .int .i64 x0_1]] := by simp [Act.eval]
    rw [hh]
    exact toClock_c _ _ _
  obtain ⟨rfl, n_u3⟩ := hp
  have b0_u3 : u3.cell? ⟨w.heap.size, 0, none⟩ = some (.int .i64 x0_0) := n_u3.cell b0_u2
  have b1_u3 : u3.cell? ⟨w.heap.size, 1, none⟩ = some (.int .i64 x0_1) := n_u3.cell b1_u2
  have Ku3 : NH w u3 := Ku2.trans n_u3
  have zu3 : u2.heap.size ≤ u3.heap.size := n_u3.sz
  refine gc_act (a' := ⟨#[.agg #[.int .i64 x0_0, .int .i64 x0_1], .int .i64 x1, .pointer (some ⟨w.heap.size, 0, none⟩), undef, .bool false, .int .i64 (tlM x0_0 x0_1 x1), .bool (tlB x0_0 x0_1 x1), undef, undef, .tuple #[.int .i64 (tlM x0_0 x0_1 x1), .bool (tlB x0_0 x0_1 x1)], .agg #[.int .i64 x0_0, .int .i64 x0_1], .agg #[.int .i64 x0_0, .int .i64 x0_1], .int .i64 x1, .tuple #[.int .i64 (tlM x0_0 x0_1 x1), .bool (tlB x0_0 x0_1 x1)], .int .i64 (tlM x0_0 x0_1 x1), .bool (tlB x0_0 x0_1 x1), undef, .agg #[.int .i64 x0_0, .int .i64 x0_1], .agg #[.int .i64 x0_0, .int .i64 x0_1], undef, undef, undef, undef, undef, undef, undef, undef, undef, undef, undef, undef], []⟩) rfl ?_
  refine gc_move rfl (by rfl) rfl hn3 rfl ?_
  refine gc_act (a' := ⟨#[.agg #[.int .i64 x0_0, .int .i64 x0_1], .int .i64 x1, .pointer (some ⟨w.heap.size, 0, none⟩), undef, .bool false, .int .i64 (tlM x0_0 x0_1 x1), .bool (tlB x0_0 x0_1 x1), undef, undef, .tuple #[.int .i64 (tlM x0_0 x0_1 x1), .bool (tlB x0_0 x0_1 x1)], .agg #[.int .i64 x0_0, .int .i64 x0_1], .agg #[.int .i64 x0_0, .int .i64 x0_1], .int .i64 x1, .tuple #[.int .i64 (tlM x0_0 x0_1 x1), .bool (tlB x0_0 x0_1 x1)], .int .i64 (tlM x0_0 x0_1 x1), .bool (tlB x0_0 x0_1 x1), undef, .agg #[.int .i64 x0_0, .int .i64 x0_1], .agg #[.int .i64 x0_0, .int .i64 x0_1], .int .i64 x1, undef, undef, undef, undef, undef, undef, undef, undef, undef, undef, undef], []⟩) rfl ?_
  refine gc_call rfl (by rfl) rfl rfl Try.func21 (by rfl) rfl hn3 (Post := fun q q' => q = .tuple #[.int .i64 (tlM x0_0 x0_1 x1), .bool (tlB x0_0 x0_1 x1)] ∧ NH u3 q') ?_ fun q u4 hp hn4 => ?_
  · have hh : Array.map (Act.eval ⟨#[.agg #[.int .i64 x0_0, .int .i64 x0_1], .int .i64 x1, .pointer (some ⟨w.heap.size, 0, none⟩), undef, .bool false, .int .i64 (tlM x0_0 x0_1 x1), .bool (tlB x0_0 x0_1 x1), undef, undef, .tuple #[.int .i64 (tlM x0_0 x0_1 x1), .bool (tlB x0_0 x0_1 x1)], .agg #[.int .i64 x0_0, .int .i64 x0_1], .agg #[.int .i64 x0_0, .int .i64 x0_1], .int .i64 x1, .tuple #[.int .i64 (tlM x0_0 x0_1 x1), .bool (tlB x0_0 x0_1 x1)], .int .i64 (tlM x0_0 x0_1 x1), .bool (tlB x0_0 x0_1 x1), undef, .agg #[.int .i64 x0_0, .int .i64 x0_1], .agg #[.int .i64 x0_0, .int .i64 x0_1], .int .i64 x1, undef, undef, undef, undef, undef, undef, undef, undef, undef, undef, undef], []⟩) #[Operand.tmp 18, Operand.tmp 19] = #[.agg #[.int .i64 x0_0, .int .i64 x0_1], .int .i64 x1] := by simp [Act.eval]
    rw [hh]
    exact iTimeOfLevel_any _ _ _ _
  obtain ⟨rfl, n_u4⟩ := hp
  have b0_u4 : u4.cell? ⟨w.heap.size, 0, none⟩ = some (.int .i64 x0_0) := n_u4.cell b0_u3
  have b1_u4 : u4.cell? ⟨w.heap.size, 1, none⟩ = some (.int .i64 x0_1) := n_u4.cell b1_u3
  have Ku4 : NH w u4 := Ku3.trans n_u4
  have zu4 : u3.heap.size ≤ u4.heap.size := n_u4.sz
  refine gc_act (a' := ⟨#[.agg #[.int .i64 x0_0, .int .i64 x0_1], .int .i64 x1, .pointer (some ⟨w.heap.size, 0, none⟩), undef, .bool false, .int .i64 (tlM x0_0 x0_1 x1), .bool (tlB x0_0 x0_1 x1), undef, undef, .tuple #[.int .i64 (tlM x0_0 x0_1 x1), .bool (tlB x0_0 x0_1 x1)], .agg #[.int .i64 x0_0, .int .i64 x0_1], .agg #[.int .i64 x0_0, .int .i64 x0_1], .int .i64 x1, .tuple #[.int .i64 (tlM x0_0 x0_1 x1), .bool (tlB x0_0 x0_1 x1)], .int .i64 (tlM x0_0 x0_1 x1), .bool (tlB x0_0 x0_1 x1), undef, .agg #[.int .i64 x0_0, .int .i64 x0_1], .agg #[.int .i64 x0_0, .int .i64 x0_1], .int .i64 x1, .tuple #[.int .i64 (tlM x0_0 x0_1 x1), .bool (tlB x0_0 x0_1 x1)], undef, undef, undef, undef, undef, undef, undef, undef, undef, undef], []⟩) rfl ?_
  refine gc_move rfl (by rfl) rfl hn4 rfl ?_
  refine gc_act (a' := ⟨#[.agg #[.int .i64 x0_0, .int .i64 x0_1], .int .i64 x1, .pointer (some ⟨w.heap.size, 0, none⟩), undef, .bool false, .int .i64 (tlM x0_0 x0_1 x1), .bool (tlB x0_0 x0_1 x1), undef, undef, .tuple #[.int .i64 (tlM x0_0 x0_1 x1), .bool (tlB x0_0 x0_1 x1)], .agg #[.int .i64 x0_0, .int .i64 x0_1], .agg #[.int .i64 x0_0, .int .i64 x0_1], .int .i64 x1, .tuple #[.int .i64 (tlM x0_0 x0_1 x1), .bool (tlB x0_0 x0_1 x1)], .int .i64 (tlM x0_0 x0_1 x1), .bool (tlB x0_0 x0_1 x1), .tuple #[.int .i64 (tlM x0_0 x0_1 x1), .bool (tlB x0_0 x0_1 x1)], .agg #[.int .i64 x0_0, .int .i64 x0_1], .agg #[.int .i64 x0_0, .int .i64 x0_1], .int .i64 x1, .tuple #[.int .i64 (tlM x0_0 x0_1 x1), .bool (tlB x0_0 x0_1 x1)], undef, undef, undef, undef, undef, undef, undef, undef, undef, undef], []⟩) rfl ?_
  refine gc_val (v := .int .i64 (tlM x0_0 x0_1 x1)) rfl (by rfl) rfl (by rfl) hn4 (by intro τ d; simp [execOp, go_sem]) ?_
  refine gc_act (a' := ⟨#[.agg #[.int .i64 x0_0, .int .i64 x0_1], .int .i64 x1, .pointer (some ⟨w.heap.size, 0, none⟩), undef, .bool false, .int .i64 (tlM x0_0 x0_1 x1), .bool (tlB x0_0 x0_1 x1), undef, undef, .tuple #[.int .i64 (tlM x0_0 x0_1 x1), .bool (tlB x0_0 x0_1 x1)], .agg #[.int .i64 x0_0, .int .i64 x0_1], .agg #[.int .i64 x0_0, .int .i64 x0_1], .int .i64 x1, .tuple #[.int .i64 (tlM x0_0 x0_1 x1), .bool (tlB x0_0 x0_1 x1)], .int .i64 (tlM x0_0 x0_1 x1), .bool (tlB x0_0 x0_1 x1), .tuple #[.int .i64 (tlM x0_0 x0_1 x1), .bool (tlB x0_0 x0_1 x1)], .agg #[.int .i64 x0_0, .int .i64 x0_1], .agg #[.int .i64 x0_0, .int .i64 x0_1], .int .i64 x1, .tuple #[.int .i64 (tlM x0_0 x0_1 x1), .bool (tlB x0_0 x0_1 x1)], .int .i64 (tlM x0_0 x0_1 x1), undef, undef, undef, undef, undef, undef, undef, undef, undef], []⟩) rfl ?_
  refine gc_val (v := .bool (tlB x0_0 x0_1 x1)) rfl (by rfl) rfl (by rfl) hn4 (by intro τ d; simp [execOp, go_sem]) ?_
  refine gc_act (a' := ⟨#[.agg #[.int .i64 x0_0, .int .i64 x0_1], .int .i64 x1, .pointer (some ⟨w.heap.size, 0, none⟩), undef, .bool false, .int .i64 (tlM x0_0 x0_1 x1), .bool (tlB x0_0 x0_1 x1), undef, undef, .tuple #[.int .i64 (tlM x0_0 x0_1 x1), .bool (tlB x0_0 x0_1 x1)], .agg #[.int .i64 x0_0, .int .i64 x0_1], .agg #[.int .i64 x0_0, .int .i64 x0_1], .int .i64 x1, .tuple #[.int .i64 (tlM x0_0 x0_1 x1), .bool (tlB x0_0 x0_1 x1)], .int .i64 (tlM x0_0 x0_1 x1), .bool (tlB x0_0 x0_1 x1), .tuple #[.int .i64 (tlM x0_0 x0_1 x1), .bool (tlB x0_0 x0_1 x1)], .agg #[.int .i64 x0_0, .int .i64 x0_1], .agg #[.int .i64 x0_0, .int .i64 x0_1], .int .i64 x1, .tuple #[.int .i64 (tlM x0_0 x0_1 x1), .bool (tlB x0_0 x0_1 x1)], .int .i64 (tlM x0_0 x0_1 x1), .bool (tlB x0_0 x0_1 x1), undef, undef, undef, undef, undef, undef, undef, undef], []⟩) rfl ?_
  refine gc_assign rfl (by rfl) rfl hn4 rfl ?_
  refine gc_act (a' := ⟨#[.agg #[.int .i64 x0_0, .int .i64 x0_1], .int .i64 x1, .pointer (some ⟨w.heap.size, 0, none⟩), undef, .bool false, .int .i64 (tlM x0_0 x0_1 x1), .bool (tlB x0_0 x0_1 x1), .int .i64 (tlM x0_0 x0_1 x1), undef, .tuple #[.int .i64 (tlM x0_0 x0_1 x1), .bool (tlB x0_0 x0_1 x1)], .agg #[.int .i64 x0_0, .int .i64 x0_1], .agg #[.int .i64 x0_0, .int .i64 x0_1], .int .i64 x1, .tuple #[.int .i64 (tlM x0_0 x0_1 x1), .bool (tlB x0_0 x0_1 x1)], .int .i64 (tlM x0_0 x0_1 x1), .bool (tlB x0_0 x0_1 x1), .tuple #[.int .i64 (tlM x0_0 x0_1 x1), .bool (tlB x0_0 x0_1 x1)], .agg #[.int .i64 x0_0, .int .i64 x0_1], .agg #[.int .i64 x0_0, .int .i64 x0_1], .int .i64 x1, .tuple #[.int .i64 (tlM x0_0 x0_1 x1), .bool (tlB x0_0 x0_1 x1)], .int .i64 (tlM x0_0 x0_1 x1), .bool (tlB x0_0 x0_1 x1), undef, undef, undef, undef, undef, undef, undef, undef], []⟩) rfl ?_
  refine gc_assign rfl (by rfl) rfl hn4 rfl ?_
  refine gc_act (a' := ⟨#[.agg #[.int .i64 x0_0, .int .i64 x0_1], .int .i64 x1, .pointer (some ⟨w.heap.size, 0, none⟩), undef, .bool false, .int .i64 (tlM x0_0 x0_1 x1), .bool (tlB x0_0 x0_1 x1), .int .i64 (tlM x0_0 x0_1 x1), .bool (tlB x0_0 x0_1 x1), .tuple #[.int .i64 (tlM x0_0 x0_1 x1), .bool (tlB x0_0 x0_1 x1)], .agg #[.int .i64 x0_0, .int .i64 x0_1], .agg #[.int .i64 x0_0, .int .i64 x0_1], .int .i64 x1, .tuple #[.int .i64 (tlM x0_0 x0_1 x1), .bool (tlB x0_0 x0_1 x1)], .int .i64 (tlM x0_0 x0_1 x1), .bool (tlB x0_0 x0_1 x1), .tuple #[.int .i64 (tlM x0_0 x0_1 x1), .bool (tlB x0_0 x0_1 x1)], .agg #[.int .i64 x0_0, .int .i64 x0_1], .agg #[.int .i64 x0_0, .int .i64 x0_1], .int .i64 x1, .tuple #[.int .i64 (tlM x0_0 x0_1 x1), .bool (tlB x0_0 x0_1 x1)], .int .i64 (tlM x0_0 x0_1 x1), .bool (tlB x0_0 x0_1 x1), undef, undef, undef, undef, undef, undef, undef, undef], []⟩) rfl ?_
  refine gc_nil ?_
  refine gc_seq (gc_code plain_shut rfl ⟨_, Try.func6⟩ (by kernel_rfl) rfl hn4 fun K R hK hR τ => ?_)
  clear hR
  go_wp2
  intro _
  refine GoesC.wt ?_ _ _
  refine gc_seq (gc_code plain_shut rfl ⟨_, Try.func6⟩ (by kernel_rfl) rfl hn4 fun K R hK hR τ => ?_)
  clear hR
  go_wp2
  intro _
  refine GoesC.wt ?_ _ _
  refine gc_ret fun todo => ?_
  refine gc_ends rfl rfl Try.func6 (by kernel_rfl) (v := .bool true) (fun w => by simp [results, Try.results6, go_sem]) fun τ d => ⟨rfl, Ku4.wt τ d⟩
end Go.Proofs.Ytnahlemchajfdaa
