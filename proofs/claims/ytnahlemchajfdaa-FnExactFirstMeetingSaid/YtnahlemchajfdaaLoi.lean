/- LevelsOfClock: the program's. -/
import Derived.Test.YtnahlemchajfdaaLoc
namespace Go.Proofs.Ytnahlemchajfdaa
open Go.Conc Go.RowKit Go.IntWalk Go.Proofs.Ytnahlemchajfdaa.Meta

/-- A slice of the goroutines' making. -/
theorem ticks_own {w w' : World} {zs : List Int} {v : Value} (h : TicksPost w zs v w') : ∃ oa n oc, v = .slice oa n oc ∧ Own w' w.heap.size w'.heap.size oa n oc zs ∧ NH w w' := by
  obtain ⟨oa, oc, e, ow⟩ := Own.of_row h.own
  exact ⟨oa, _, oc, e, ow, h.sz, h.old⟩

set_option maxRecDepth 100000 in
set_option maxHeartbeats 4000000 in
theorem iLevelsOfClock_any (w : World) (L D : Int) :
    CallsC Try.prog 14 #[.agg #[.int .i64 L, .int .i64 D]] w fun v w' => ∃ oa n oc, v = .tuple #[.slice oa n oc, .bool (ckB L D)] ∧ Own w' w.heap.size w'.heap.size oa n oc (locM L D) ∧ NH w w' := by
  refine CallsC.of_body Try.func14 rfl fun Stop cf rest hn hnext => ?_
  refine gc_act (a' := ⟨#[.agg #[.int .i64 L, .int .i64 D], undef, undef, undef, undef, undef, undef, undef, undef], []⟩) (by simp only [Try.ntmps14, List.size_toArray, List.length_cons, List.length_nil, Nat.reduceAdd, Nat.reduceSub, Array.replicate_succ, Array.replicate_zero, List.push_toArray, List.append_toArray, List.nil_append, List.cons_append]) ?_
  refine gc_seq (gc_code plain_shut rfl ⟨_, Try.func14⟩ (by kernel_rfl) rfl hn fun K R hK hR τ => ?_)
  clear hR
  go_wp2
  intro hn1
  obtain ⟨w1, hw1⟩ : ∃ x, x = ((Meta.wt w τ 0).alloc (Obj.cells #[Value.int IntKind.i64 L, Value.int IntKind.i64 D] 24)) := ⟨_, rfl⟩
  rw [← hw1] at hn1 ⊢
  rw [show (Meta.wt w τ 0).heap.size = w.heap.size from rfl]
  have b0 : w1.cell? ⟨w.heap.size, 0, none⟩ = some (.int .i64 L) := by rw [hw1]; simp [go_sem, Meta.wt]
  have b1 : w1.cell? ⟨w.heap.size, 1, none⟩ = some (.int .i64 D) := by rw [hw1]; simp [go_sem, Meta.wt]
  have N1 : NH w w1 := by rw [hw1]; exact ((NH.refl w).wt τ 0).alloc _
  clear hw1
  by_cases h : ckB L D = true
  · have q := ckB_iff.1 h
    have HM := Lib.hid (show locM L D = levL D L by unfold locM; rw [if_pos h])
    have H := Lib.hid h; clear h
    refine gc_seq (gc_code plain_shut rfl ⟨_, Try.func14⟩ (by kernel_rfl) rfl hn1 fun K R hK hR τ => ?_)
    clear hR
    have b0' : (Meta.wt w1 τ 0).cell? ⟨w.heap.size, 0, none⟩ = some (.int .i64 L) := b0
    have b1' : (Meta.wt w1 τ 0).cell? ⟨w.heap.size, 1, none⟩ = some (.int .i64 D) := b1
    go_wp2_with fail
    refine (iIsClock_any _ _ _).mono ?_
    rintro e w2 ⟨rfl, n_w2⟩
    have N2 : NH w w2 := N1.trans ⟨n_w2.size, n_w2.block⟩
    have c0 : w2.cell? ⟨w.heap.size, 0, none⟩ = some (.int .i64 L) := n_w2.cell b0'
    have c1 : w2.cell? ⟨w.heap.size, 1, none⟩ = some (.int .i64 D) := n_w2.cell b1'
    rw [H.out]
    clear n_w2 b0' b1' b0 b1 N1 hn1
    go_wp2
    intro hn2

    refine gc_seq (gc_region ?_)
    refine gc_val (v := .agg #[.int .i64 L, .int .i64 D]) rfl (by rfl) rfl (by rfl) hn2 (by intro τ d; have q0 : (Meta.wt w2 τ d).cell? ⟨w.heap.size, 0, none⟩ = some (.int .i64 L) := c0; have q1 : (Meta.wt w2 τ d).cell? ⟨w.heap.size, 1, none⟩ = some (.int .i64 D) := c1; simp [execOp, go_sem, q0, q1]) ?_
    refine gc_act (a' := ⟨#[.agg #[.int .i64 L, .int .i64 D], .pointer (some ⟨w.heap.size, 0, none⟩), .slice none 0 0, .bool false, .agg #[.int .i64 L, .int .i64 D], .bool true, .bool false, .agg #[.int .i64 L, .int .i64 D], undef], []⟩) rfl ?_
    refine gc_call rfl (by rfl) rfl rfl Try.func32 (by rfl) rfl hn2 (Post := TicksPost w2 (levL D L)) ?_ fun v w3 hp hn3 => ?_
    · have hh : Array.map (Act.eval ⟨#[.agg #[.int .i64 L, .int .i64 D], .pointer (some ⟨w.heap.size, 0, none⟩), .slice none 0 0, .bool false, .agg #[.int .i64 L, .int .i64 D], .bool true, .bool false, .agg #[.int .i64 L, .int .i64 D], undef], []⟩) #[Operand.tmp 7] = #[.agg #[.int .i64 L, .int .i64 D]] := by simp [Act.eval]
      rw [hh]
      exact levels_any w2 L D q.1.1 q.1.2 q.2.1 q.2.2
    obtain ⟨oa, n, oc, rfl, own, nh⟩ := ticks_own hp
    refine gc_act (a' := ⟨#[.agg #[.int .i64 L, .int .i64 D], .pointer (some ⟨w.heap.size, 0, none⟩), .slice none 0 0, .bool false, .agg #[.int .i64 L, .int .i64 D], .bool true, .bool false, .agg #[.int .i64 L, .int .i64 D], .slice oa n oc], []⟩) rfl ?_
    refine gc_assign rfl (by rfl) rfl hn3 rfl ?_
    refine gc_assign rfl (by rfl) rfl hn3 rfl ?_
    refine gc_act (a' := ⟨#[.agg #[.int .i64 L, .int .i64 D], .pointer (some ⟨w.heap.size, 0, none⟩), .slice oa n oc, .bool true, .agg #[.int .i64 L, .int .i64 D], .bool true, .bool false, .agg #[.int .i64 L, .int .i64 D], .slice oa n oc], []⟩) rfl ?_
    refine gc_nil (gc_ret fun todo => ?_)
    refine gc_leave rfl Try.func14 rfl (v := .tuple #[.slice oa n oc, .bool true]) (fun τ d => by simp [results, Try.results14, go_sem]) (hnext _ w3 ⟨oa, n, oc, by rw [H.out], ?_, N2.trans nh⟩ hn3)
    rw [HM.out]
    exact Own.mono own N2.sz (Nat.le_refl _)
  · have hf := bool_nt h
    have HM := Lib.hid (show locM L D = [] by unfold locM; rw [hf]; rfl)
    have H := Lib.hid hf; clear h hf
    refine gc_seq (gc_code plain_shut rfl ⟨_, Try.func14⟩ (by kernel_rfl) rfl hn1 fun K R hK hR τ => ?_)
    clear hK
    have b0' : (Meta.wt w1 τ 0).cell? ⟨w.heap.size, 0, none⟩ = some (.int .i64 L) := b0
    have b1' : (Meta.wt w1 τ 0).cell? ⟨w.heap.size, 1, none⟩ = some (.int .i64 D) := b1
    go_wp2_with fail
    refine (iIsClock_any _ _ _).mono ?_
    rintro e w2 ⟨rfl, n_w2⟩
    have N2 : NH w w2 := N1.trans ⟨n_w2.size, n_w2.block⟩
    rw [H.out]
    clear n_w2 b0' b1' b0 b1 N1 hn1
    go_wp2
    intro hn2 todo
    refine gc_leave rfl Try.func14 rfl (v := .tuple #[.slice none 0 0, .bool false]) (fun τ d => by simp [results, Try.results14, go_sem]) (hnext _ w2 ⟨_, _, _, by rw [H.out], ?_, N2⟩ hn2)
    rw [HM.out]
    exact Own.nil _ _ _
end Go.Proofs.Ytnahlemchajfdaa
