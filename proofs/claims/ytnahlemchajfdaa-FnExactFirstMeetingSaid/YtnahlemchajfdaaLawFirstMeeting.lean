/- The law of FirstMeeting. -/
import Derived.Test.YtnahlemchajfdaaFmi
namespace Go.Proofs.Ytnahlemchajfdaa
open Go.Conc Go.RowKit Go.IntWalk Go.Proofs.Ytnahlemchajfdaa.Meta

def lfR (L D M E : Int) : Nat → Value → World → Prop
  | 0, v, _ => v = .agg #[.int .i64 L, .int .i64 D]
  | 1, v, _ => v = .agg #[.int .i64 L, .int .i64 D]
  | 2, v, _ => v = .agg #[.int .i64 M, .int .i64 E]
  | 3, v, _ => v = .agg #[.int .i64 M, .int .i64 E]
  | 4, v, _ => v = .tuple #[.int .i64 (fmM L D M E), .bool (fmB L D M E)]
  | 5, v, _ => v = .tuple #[.int .i64 (fmM L D M E), .bool (fmB L D M E)]
  | 6, v, _ => v = .int .i64 (fmM L D M E)
  | 7, v, _ => v = .bool (fmB L D M E)
  | 8, v, _ => v = .int .i64 (fmM L D M E)
  | _, v, _ => v = .bool (fmB L D M E)
theorem lfR_keep (L D M E : Int) (j : Nat) (v : Value) (w w' : World) (_ : NH w w') (hr : lfR L D M E j v w) : lfR L D M E j v w' := by
  match j, hr with
  | 0, hr => exact hr
  | 1, hr => exact hr
  | 2, hr => exact hr
  | 3, hr => exact hr
  | 4, hr => exact hr
  | 5, hr => exact hr
  | 6, hr => exact hr
  | 7, hr => exact hr
  | 8, hr => exact hr
  | _ + 9, hr => exact hr

set_option maxRecDepth 100000 in
set_option maxHeartbeats 20000000 in
theorem law_FirstMeeting (w : World) (L D M E : Int) (hn : NPW w) :
    GoesC Try.prog (EndsW Try.prog fun v w' => v = .bool true ∧ NH w w') (G (Frame.enter Try.prog 8 #[.agg #[.int .i64 L, .int .i64 D], .agg #[.int .i64 M, .int .i64 E]] .normal) []) w := by
  rw [enter_at _ Try.func8 rfl]
  refine gc_act (a' := ⟨#[.agg #[.int .i64 L, .int .i64 D], .agg #[.int .i64 M, .int .i64 E], undef, undef, undef, undef, undef, undef, undef, undef, undef, undef, undef, undef, undef, undef, undef, undef, undef, undef, undef, undef, undef, undef, undef, undef, undef, undef, undef, undef, undef, undef, undef], []⟩) (by simp only [Try.ntmps8, List.size_toArray, List.length_cons, List.length_nil, Nat.reduceAdd, Nat.reduceSub, Array.replicate_succ, Array.replicate_zero, List.push_toArray, List.append_toArray, List.nil_append, List.cons_append]) ?_
  refine gc_seq (gc_code plain_shut rfl ⟨_, Try.func8⟩ (by kernel_rfl) rfl hn fun K R hK hR τ => ?_)
  clear hR
  go_wp2
  intro hn1
  obtain ⟨v0, hv0⟩ : ∃ x, x = (((Meta.wt w τ 0).alloc (Obj.cells #[Value.int IntKind.i64 L, Value.int IntKind.i64 D] 23)).alloc (Obj.cells #[Value.int IntKind.i64 M, Value.int IntKind.i64 E] 23)) := ⟨_, rfl⟩
  rw [← hv0] at hn1 ⊢
  try simp only [show (Meta.wt w τ 0).heap.size = w.heap.size from rfl]
  obtain ⟨B, hB⟩ : ∃ B, B = w.heap.size := ⟨_, rfl⟩
  have b0 : v0.cell? ⟨B, 0, none⟩ = some (.int .i64 L) := by rw [hv0, hB]; simp [go_sem, Meta.wt]
  have b1 : v0.cell? ⟨B, 1, none⟩ = some (.int .i64 D) := by rw [hv0, hB]; simp [go_sem, Meta.wt]
  have d0 : v0.cell? ⟨B + 1, 0, none⟩ = some (.int .i64 M) := by rw [hv0, hB]; simp [go_sem, Meta.wt]
  have d1 : v0.cell? ⟨B + 1, 1, none⟩ = some (.int .i64 E) := by rw [hv0, hB]; simp [go_sem, Meta.wt]
  have N1 : NH w v0 := by rw [hv0]; exact (((NH.refl w).wt τ 0).alloc _).alloc _
  rw [← hB]
  clear hv0 hB
  refine gc_seq (gc_drawn_rel 33 [(2, .pointer (some ⟨B, 0, none⟩)), (3, .pointer (some ⟨B + 1, 0, none⟩)), (4, .bool false)] [] (lfR L D M E) NH (fun W => NH w W ∧ (W.cell? ⟨B, 0, none⟩ = some (.int .i64 L) ∧ W.cell? ⟨B, 1, none⟩ = some (.int .i64 D)) ∧ W.cell? ⟨B + 1, 0, none⟩ = some (.int .i64 M) ∧ W.cell? ⟨B + 1, 1, none⟩ = some (.int .i64 E))
    rfl (by kernel_rfl) (lfR_keep L D M E) ?_ ?_ ?_ ⟨rfl, rfl, by simp⟩ ⟨N1, ⟨b0, b1⟩, d0, d1⟩ hn1)
  · rintro W W' h ⟨h1, h3, h4, h5⟩
    exact ⟨h1.trans h, ⟨h.cell h3.1, h.cell h3.2⟩, h.cell h4, h.cell h5⟩
  · intro i o ho a W hb hW hdep hnx rest next
    obtain ⟨bs, bd, bk⟩ := hb
    obtain ⟨k1, ⟨k3, k4⟩, k5, k6⟩ := hW
    have t2 : a.tmps[2]? = some (.pointer (some ⟨B, 0, none⟩)) := bk (2, _) (by simp)
    have t3 : a.tmps[3]? = some (.pointer (some ⟨B + 1, 0, none⟩)) := bk (3, _) (by simp)
    clear bk
    rcases i with _ | _ | _ | _ | _ | _ | _ | _ | _ | _ | i
    · obtain rfl := Option.some.inj ho
      refine gc_val (v := .agg #[.int .i64 L, .int .i64 D]) rfl ho rfl (by rfl) hnx (by intro τ d; have q0 : (Meta.wt W τ d).cell? ⟨B, 0, none⟩ = some (.int .i64 L) := k3; have q1 : (Meta.wt W τ d).cell? ⟨B, 1, none⟩ = some (.int .i64 D) := k4; simp [execOp, go_sem, t2, q0, q1]) (next _ _ rfl (NH.refl _) hnx)
    · obtain rfl := Option.some.inj ho
      obtain ⟨v0, rfl, s0⟩ := hdep ⟨0, .data⟩ (by simp) rfl
      have ts := s0 10 rfl
      refine gc_call rfl ho rfl rfl Try.func10 (by rfl) rfl hnx (Post := fun q q' => q = .agg #[.int .i64 L, .int .i64 D] ∧ NH W q') ?_ fun v w3 hp hn3 => ?_
      · rw [show Array.map a.eval #[Operand.tmp 10] = #[.agg #[.int .i64 L, .int .i64 D]] from by simp [eval_tmp ts]]
        exact toClock_c _ _ _
      · exact next _ _ hp.1 hp.2 hn3
    · obtain rfl := Option.some.inj ho
      refine gc_val (v := .agg #[.int .i64 M, .int .i64 E]) rfl ho rfl (by rfl) hnx (by intro τ d; have q0 : (Meta.wt W τ d).cell? ⟨B + 1, 0, none⟩ = some (.int .i64 M) := k5; have q1 : (Meta.wt W τ d).cell? ⟨B + 1, 1, none⟩ = some (.int .i64 E) := k6; simp [execOp, go_sem, t3, q0, q1]) (next _ _ rfl (NH.refl _) hnx)
    · obtain rfl := Option.some.inj ho
      obtain ⟨v0, rfl, s0⟩ := hdep ⟨2, .data⟩ (by simp) rfl
      have ts := s0 12 rfl
      refine gc_call rfl ho rfl rfl Try.func10 (by rfl) rfl hnx (Post := fun q q' => q = .agg #[.int .i64 M, .int .i64 E] ∧ NH W q') ?_ fun v w3 hp hn3 => ?_
      · rw [show Array.map a.eval #[Operand.tmp 12] = #[.agg #[.int .i64 M, .int .i64 E]] from by simp [eval_tmp ts]]
        exact toClock_c _ _ _
      · exact next _ _ hp.1 hp.2 hn3
    · obtain rfl := Option.some.inj ho
      obtain ⟨v0, rfl, z0⟩ := hdep ⟨1, .data⟩ (by simp) rfl
      obtain ⟨v1, rfl, z1⟩ := hdep ⟨3, .data⟩ (by simp) rfl
      have ts0 := z0 11 rfl
      have ts1 := z1 13 rfl
      refine gc_call rfl ho rfl rfl Try.func24 (by rfl) rfl hnx (Post := fun q q' => q = .tuple #[.int .i64 (fmM L D M E), .bool (fmB L D M E)] ∧ NH W q') ?_ fun v w3 hp hn3 => ?_
      · rw [show Array.map a.eval #[Operand.tmp 11, Operand.tmp 13] = #[.agg #[.int .i64 L, .int .i64 D], .agg #[.int .i64 M, .int .i64 E]] from by simp [eval_tmp ts0, eval_tmp ts1]]
        exact callsC_val plain_shut (by decide) fun τ => sFirstMeeting_any (Meta.wt W τ 0) L D M E
      · exact next _ _ hp.1 hp.2 hn3
    · obtain rfl := Option.some.inj ho
      obtain ⟨v0, hv, z0⟩ := hdep ⟨4, .data⟩ (by simp) rfl
      have ts := z0 14 rfl
      refine gc_move rfl ho rfl hnx rfl ?_
      rw [eval_tmp ts]
      exact next _ _ hv (NH.refl _) hnx
    · obtain rfl := Option.some.inj ho
      obtain ⟨v0, rfl, z0⟩ := hdep ⟨5, .data⟩ (by simp) rfl
      have ts := z0 9 rfl
      refine gc_val (v := .int .i64 (fmM L D M E)) rfl ho rfl (by rfl) hnx (by intro τ d; simp [execOp, go_sem, ts]) (next _ _ rfl (NH.refl _) hnx)
    · obtain rfl := Option.some.inj ho
      obtain ⟨v0, rfl, z0⟩ := hdep ⟨5, .data⟩ (by simp) rfl
      have ts := z0 9 rfl
      refine gc_val (v := .bool (fmB L D M E)) rfl ho rfl (by rfl) hnx (by intro τ d; simp [execOp, go_sem, ts]) (next _ _ rfl (NH.refl _) hnx)
    · obtain rfl := Option.some.inj ho
      obtain ⟨v0, hv, z0⟩ := hdep ⟨6, .data⟩ (by simp) rfl
      have ts := z0 15 rfl
      refine gc_assign rfl ho rfl hnx rfl ?_
      rw [eval_tmp ts]
      exact next _ _ hv (NH.refl _) hnx
    · obtain rfl := Option.some.inj ho
      obtain ⟨v0, hv, z0⟩ := hdep ⟨7, .data⟩ (by simp) rfl
      have ts := z0 16 rfl
      refine gc_assign rfl ho rfl hnx rfl ?_
      rw [eval_tmp ts]
      exact next _ _ hv (NH.refl _) hnx
    · simp at ho
  intro a1 u1 hb1 hW1 hg hn2
  have q5 : a1.tmps[5]? = some (.int .i64 (fmM L D M E)) := by obtain ⟨v, rfl, z⟩ := hg 8 (by simp); exact z 5 rfl
  have q6 : a1.tmps[6]? = some (.bool (fmB L D M E)) := by obtain ⟨v, rfl, z⟩ := hg 9 (by simp); exact z 6 rfl
  clear hg
  refine gc_seq (gc_drawn_rel 33 [(2, .pointer (some ⟨B, 0, none⟩)), (3, .pointer (some ⟨B + 1, 0, none⟩)), (4, .bool false), (5, .int .i64 (fmM L D M E)), (6, .bool (fmB L D M E))] [] (lfR L D M E) NH (fun W => NH w W ∧ (W.cell? ⟨B, 0, none⟩ = some (.int .i64 L) ∧ W.cell? ⟨B, 1, none⟩ = some (.int .i64 D)) ∧ W.cell? ⟨B + 1, 0, none⟩ = some (.int .i64 M) ∧ W.cell? ⟨B + 1, 1, none⟩ = some (.int .i64 E))
    rfl (by kernel_rfl) (lfR_keep L D M E) ?_ ?_ ?_ ⟨hb1.1, hb1.2.1, fun p hp => by simp only [List.mem_cons, List.not_mem_nil, or_false] at hp; rcases hp with rfl | rfl | rfl | rfl | rfl <;> first | exact q5 | exact q6 | exact hb1.2.2 _ (by simp)⟩ hW1 hn2)
  · rintro W W' h ⟨h1, h3, h4, h5⟩
    exact ⟨h1.trans h, ⟨h.cell h3.1, h.cell h3.2⟩, h.cell h4, h.cell h5⟩
  · intro i o ho a W hb hW hdep hnx rest next
    obtain ⟨bs, bd, bk⟩ := hb
    obtain ⟨k1, ⟨k3, k4⟩, k5, k6⟩ := hW
    have t2 : a.tmps[2]? = some (.pointer (some ⟨B, 0, none⟩)) := bk (2, _) (by simp)
    have t3 : a.tmps[3]? = some (.pointer (some ⟨B + 1, 0, none⟩)) := bk (3, _) (by simp)
    clear bk
    rcases i with _ | _ | _ | _ | _ | _ | _ | _ | _ | _ | i
    · obtain rfl := Option.some.inj ho
      refine gc_val (v := .agg #[.int .i64 L, .int .i64 D]) rfl ho rfl (by rfl) hnx (by intro τ d; have q0 : (Meta.wt W τ d).cell? ⟨B, 0, none⟩ = some (.int .i64 L) := k3; have q1 : (Meta.wt W τ d).cell? ⟨B, 1, none⟩ = some (.int .i64 D) := k4; simp [execOp, go_sem, t2, q0, q1]) (next _ _ rfl (NH.refl _) hnx)
    · obtain rfl := Option.some.inj ho
      obtain ⟨v0, rfl, s0⟩ := hdep ⟨0, .data⟩ (by simp) rfl
      have ts := s0 18 rfl
      refine gc_call rfl ho rfl rfl Try.func10 (by rfl) rfl hnx (Post := fun q q' => q = .agg #[.int .i64 L, .int .i64 D] ∧ NH W q') ?_ fun v w3 hp hn3 => ?_
      · rw [show Array.map a.eval #[Operand.tmp 18] = #[.agg #[.int .i64 L, .int .i64 D]] from by simp [eval_tmp ts]]
        exact toClock_c _ _ _
      · exact next _ _ hp.1 hp.2 hn3
    · obtain rfl := Option.some.inj ho
      refine gc_val (v := .agg #[.int .i64 M, .int .i64 E]) rfl ho rfl (by rfl) hnx (by intro τ d; have q0 : (Meta.wt W τ d).cell? ⟨B + 1, 0, none⟩ = some (.int .i64 M) := k5; have q1 : (Meta.wt W τ d).cell? ⟨B + 1, 1, none⟩ = some (.int .i64 E) := k6; simp [execOp, go_sem, t3, q0, q1]) (next _ _ rfl (NH.refl _) hnx)
    · obtain rfl := Option.some.inj ho
      obtain ⟨v0, rfl, s0⟩ := hdep ⟨2, .data⟩ (by simp) rfl
      have ts := s0 20 rfl
      refine gc_call rfl ho rfl rfl Try.func10 (by rfl) rfl hnx (Post := fun q q' => q = .agg #[.int .i64 M, .int .i64 E] ∧ NH W q') ?_ fun v w3 hp hn3 => ?_
      · rw [show Array.map a.eval #[Operand.tmp 20] = #[.agg #[.int .i64 M, .int .i64 E]] from by simp [eval_tmp ts]]
        exact toClock_c _ _ _
      · exact next _ _ hp.1 hp.2 hn3
    · obtain rfl := Option.some.inj ho
      obtain ⟨v0, rfl, z0⟩ := hdep ⟨1, .data⟩ (by simp) rfl
      obtain ⟨v1, rfl, z1⟩ := hdep ⟨3, .data⟩ (by simp) rfl
      have ts0 := z0 19 rfl
      have ts1 := z1 21 rfl
      refine gc_call rfl ho rfl rfl Try.func25 (by rfl) rfl hnx (Post := fun q q' => q = .tuple #[.int .i64 (fmM L D M E), .bool (fmB L D M E)] ∧ NH W q') ?_ fun v w3 hp hn3 => ?_
      · rw [show Array.map a.eval #[Operand.tmp 19, Operand.tmp 21] = #[.agg #[.int .i64 L, .int .i64 D], .agg #[.int .i64 M, .int .i64 E]] from by simp [eval_tmp ts0, eval_tmp ts1]]
        exact iFirstMeeting_any W L D M E
      · exact next _ _ hp.1 hp.2 hn3
    · obtain rfl := Option.some.inj ho
      obtain ⟨v0, hv, z0⟩ := hdep ⟨4, .data⟩ (by simp) rfl
      have ts := z0 22 rfl
      refine gc_move rfl ho rfl hnx rfl ?_
      rw [eval_tmp ts]
      exact next _ _ hv (NH.refl _) hnx
    · obtain rfl := Option.some.inj ho
      obtain ⟨v0, rfl, z0⟩ := hdep ⟨5, .data⟩ (by simp) rfl
      have ts := z0 17 rfl
      refine gc_val (v := .int .i64 (fmM L D M E)) rfl ho rfl (by rfl) hnx (by intro τ d; simp [execOp, go_sem, ts]) (next _ _ rfl (NH.refl _) hnx)
    · obtain rfl := Option.some.inj ho
      obtain ⟨v0, rfl, z0⟩ := hdep ⟨5, .data⟩ (by simp) rfl
      have ts := z0 17 rfl
      refine gc_val (v := .bool (fmB L D M E)) rfl ho rfl (by rfl) hnx (by intro τ d; simp [execOp, go_sem, ts]) (next _ _ rfl (NH.refl _) hnx)
    · obtain rfl := Option.some.inj ho
      obtain ⟨v0, hv, z0⟩ := hdep ⟨6, .data⟩ (by simp) rfl
      have ts := z0 23 rfl
      refine gc_assign rfl ho rfl hnx rfl ?_
      rw [eval_tmp ts]
      exact next _ _ hv (NH.refl _) hnx
    · obtain rfl := Option.some.inj ho
      obtain ⟨v0, hv, z0⟩ := hdep ⟨7, .data⟩ (by simp) rfl
      have ts := z0 24 rfl
      refine gc_assign rfl ho rfl hnx rfl ?_
      rw [eval_tmp ts]
      exact next _ _ hv (NH.refl _) hnx
    · simp at ho
  intro a2 u2 hb2 hW2 hg hn3
  have t5 : a2.tmps[5]? = some (.int .i64 (fmM L D M E)) := hb2.2.2 (5, _) (by simp)
  have t6 : a2.tmps[6]? = some (.bool (fmB L D M E)) := hb2.2.2 (6, _) (by simp)
  have t7 : a2.tmps[7]? = some (.int .i64 (fmM L D M E)) := by obtain ⟨v, rfl, z⟩ := hg 8 (by simp); exact z 7 rfl
  have t8 : a2.tmps[8]? = some (.bool (fmB L D M E)) := by obtain ⟨v, rfl, z⟩ := hg 9 (by simp); exact z 8 rfl
  have Ku := hW2.1
  obtain ⟨bs, bd, -⟩ := hb2
  clear hg hW2 hb1 hW1 q5 q6
  obtain ⟨⟨l⟩, df⟩ := a2
  simp only at bd
  subst bd
  simp only [List.size_toArray] at bs
  obtain ⟨x0, t0', rfl, q0⟩ := len_cons bs
  obtain ⟨x1, t1', rfl, q1⟩ := len_cons q0
  clear q0
  obtain ⟨x2, t2', rfl, q2⟩ := len_cons q1
  clear q1
  obtain ⟨x3, t3', rfl, q3⟩ := len_cons q2
  clear q2
  obtain ⟨x4, t4', rfl, q4⟩ := len_cons q3
  clear q3
  obtain ⟨x5, t5', rfl, q5⟩ := len_cons q4
  clear q4
  obtain ⟨x6, t6', rfl, q6⟩ := len_cons q5
  clear q5
  obtain ⟨x7, t7', rfl, q7⟩ := len_cons q6
  clear q6
  obtain ⟨x8, t8', rfl, q8⟩ := len_cons q7
  clear q7
  obtain ⟨x9, t9', rfl, q9⟩ := len_cons q8
  clear q8
  obtain ⟨x10, t10', rfl, q10⟩ := len_cons q9
  clear q9
  obtain ⟨x11, t11', rfl, q11⟩ := len_cons q10
  clear q10
  obtain ⟨x12, t12', rfl, q12⟩ := len_cons q11
  clear q11
  obtain ⟨x13, t13', rfl, q13⟩ := len_cons q12
  clear q12
  obtain ⟨x14, t14', rfl, q14⟩ := len_cons q13
  clear q13
  obtain ⟨x15, t15', rfl, q15⟩ := len_cons q14
  clear q14
  obtain ⟨x16, t16', rfl, q16⟩ := len_cons q15
  clear q15
  obtain ⟨x17, t17', rfl, q17⟩ := len_cons q16
  clear q16
  obtain ⟨x18, t18', rfl, q18⟩ := len_cons q17
  clear q17
  obtain ⟨x19, t19', rfl, q19⟩ := len_cons q18
  clear q18
  obtain ⟨x20, t20', rfl, q20⟩ := len_cons q19
  clear q19
  obtain ⟨x21, t21', rfl, q21⟩ := len_cons q20
  clear q20
  obtain ⟨x22, t22', rfl, q22⟩ := len_cons q21
  clear q21
  obtain ⟨x23, t23', rfl, q23⟩ := len_cons q22
  clear q22
  obtain ⟨x24, t24', rfl, q24⟩ := len_cons q23
  clear q23
  obtain ⟨x25, t25', rfl, q25⟩ := len_cons q24
  clear q24
  obtain ⟨x26, t26', rfl, q26⟩ := len_cons q25
  clear q25
  obtain ⟨x27, t27', rfl, q27⟩ := len_cons q26
  clear q26
  obtain ⟨x28, t28', rfl, q28⟩ := len_cons q27
  clear q27
  obtain ⟨x29, t29', rfl, q29⟩ := len_cons q28
  clear q28
  obtain ⟨x30, t30', rfl, q30⟩ := len_cons q29
  clear q29
  obtain ⟨x31, t31', rfl, q31⟩ := len_cons q30
  clear q30
  obtain ⟨x32, t32', rfl, q32⟩ := len_cons q31
  clear q31
  obtain rfl := List.length_eq_zero_iff.1 q32
  clear q32
  simp only [List.getElem?_toArray, List.getElem?_cons_succ, List.getElem?_cons_zero, Option.some.injEq] at t5 t6 t7 t8
  subst t5 t6 t7 t8
  refine gc_seq (gc_code plain_shut rfl ⟨_, Try.func8⟩ (by kernel_rfl) rfl hn3 fun K R hK hR τ => ?_)
  clear hR
  go_wp2
  intro _
  refine GoesC.wt ?_ _ _
  refine gc_seq (gc_code plain_shut rfl ⟨_, Try.func8⟩ (by kernel_rfl) rfl hn3 fun K R hK hR τ => ?_)
  clear hR
  go_wp2
  intro _
  refine GoesC.wt ?_ _ _
  refine gc_ret fun todo => ?_
  refine gc_ends rfl rfl Try.func8 (by kernel_rfl) (v := .bool true) (fun w => by simp [results, Try.results8, go_sem]) fun τ d => ⟨rfl, Ku.wt τ d⟩
end Go.Proofs.Ytnahlemchajfdaa
