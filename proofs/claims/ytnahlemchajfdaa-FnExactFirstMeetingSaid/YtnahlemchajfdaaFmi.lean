/- FirstMeeting: the program's. -/
import Derived.Test.YtnahlemchajfdaaFm
import Derived.Test.YtnahlemchajfdaaCai
namespace Go.Proofs.Ytnahlemchajfdaa
open Go.Conc Go.RowKit Go.IntWalk Go.Proofs.Ytnahlemchajfdaa.Meta

theorem len_cons {α : Type} {l : List α} {n : Nat} (h : l.length = n + 1) : ∃ x t, l = x :: t ∧ t.length = n := by
  cases l with
  | nil => simp at h
  | cons x t => exact ⟨x, t, rfl, by simpa using h⟩

def fmR (B : Nat) (L D M E : Int) : Nat → Value → World → Prop
  | 0, v, _ => v = .agg #[.int .i64 L, .int .i64 D]
  | 1, v, w => ∃ oa n oc hi, v = .slice oa n oc ∧ Own w (B + 2) hi oa n oc (levL D L)
  | 2, v, _ => v = .agg #[.int .i64 M, .int .i64 E]
  | 3, v, w => ∃ oa n oc hi, v = .slice oa n oc ∧ Own w (B + 2) hi oa n oc (levL E M)
  | 4, v, w => ∃ oa n oc hi, v = .slice oa n oc ∧ Own w (B + 2) hi oa n oc (levL D L)
  | _, v, w => ∃ oa n oc hi, v = .slice oa n oc ∧ Own w (B + 2) hi oa n oc (levL E M)

theorem fmR_keep (B : Nat) (L D M E : Int) (j : Nat) (v : Value) (w w' : World) (h : NH w w') (hr : fmR B L D M E j v w) : fmR B L D M E j v w' := by
  match j, hr with
  | 0, hr => exact hr
  | 1, ⟨oa, n, oc, hi, e, ow⟩ => exact ⟨oa, n, oc, hi, e, ow.nh h⟩
  | 2, hr => exact hr
  | 3, ⟨oa, n, oc, hi, e, ow⟩ => exact ⟨oa, n, oc, hi, e, ow.nh h⟩
  | 4, ⟨oa, n, oc, hi, e, ow⟩ => exact ⟨oa, n, oc, hi, e, ow.nh h⟩
  | _ + 5, ⟨oa, n, oc, hi, e, ow⟩ => exact ⟨oa, n, oc, hi, e, ow.nh h⟩

set_option maxRecDepth 100000 in
set_option maxHeartbeats 8000000 in
theorem iFirstMeeting_any (w : World) (L D M E : Int) :
    CallsC Try.prog 25 #[.agg #[.int .i64 L, .int .i64 D], .agg #[.int .i64 M, .int .i64 E]] w fun v w' => v = .tuple #[.int .i64 (fmM L D M E), .bool (fmB L D M E)] ∧ NH w w' := by
  refine CallsC.of_body Try.func25 rfl fun Stop cf rest hn hnext => ?_
  refine gc_act (a' := ⟨#[.agg #[.int .i64 L, .int .i64 D], .agg #[.int .i64 M, .int .i64 E], undef, undef, undef, undef, undef, undef, undef, undef, undef, undef, undef, undef, undef, undef, undef, undef, undef, undef, undef, undef, undef, undef, undef, undef, undef, undef, undef, undef, undef], []⟩) (by simp only [Try.ntmps25, List.size_toArray, List.length_cons, List.length_nil, Nat.reduceAdd, Nat.reduceSub, Array.replicate_succ, Array.replicate_zero, List.push_toArray, List.append_toArray, List.nil_append, List.cons_append]) ?_
  refine gc_seq (gc_code plain_shut rfl ⟨_, Try.func25⟩ (by kernel_rfl) rfl hn fun K R hK hR τ => ?_)
  clear hR
  go_wp2
  intro hn1
  obtain ⟨w1, hw1⟩ : ∃ z, z = (((Meta.wt w τ 0).alloc (Obj.cells #[Value.int IntKind.i64 L, Value.int IntKind.i64 D] 24)).alloc (Obj.cells #[Value.int IntKind.i64 M, Value.int IntKind.i64 E] 24)) := ⟨_, rfl⟩
  rw [← hw1] at hn1 ⊢
  try simp only [show (Meta.wt w τ 0).heap.size = w.heap.size from rfl]
  obtain ⟨B, hB⟩ : ∃ B, B = w.heap.size := ⟨_, rfl⟩
  have b0 : w1.cell? ⟨B, 0, none⟩ = some (.int .i64 L) := by rw [hw1, hB]; simp [go_sem, Meta.wt]
  have b1 : w1.cell? ⟨B, 1, none⟩ = some (.int .i64 D) := by rw [hw1, hB]; simp [go_sem, Meta.wt]
  have d0 : w1.cell? ⟨B + 1, 0, none⟩ = some (.int .i64 M) := by rw [hw1, hB]; simp [go_sem, Meta.wt]
  have d1 : w1.cell? ⟨B + 1, 1, none⟩ = some (.int .i64 E) := by rw [hw1, hB]; simp [go_sem, Meta.wt]
  have N1 : NH w w1 := by rw [hw1]; exact (((NH.refl w).wt τ 0).alloc _).alloc _
  rw [← hB]
  have HB := Lib.hid hB
  clear hw1 hB
  by_cases hg : ckB L D = true
  · have q := ckB_iff.1 hg
    have G := Lib.hid hg
    by_cases hx : ckB M E = true
    · have p := ckB_iff.1 hx
      have HM := Lib.hid (show fmB L D M E = true ∧ fmM L D M E = (fmN L D M E : Nat) by
        have e : fmB L D M E = true := by unfold fmB; rw [hg, hx]; rfl
        exact ⟨e, by unfold fmM; rw [if_pos e]⟩)
      have X := Lib.hid hx
      have LV1 := Lib.hid (fun w => levels_any w L D q.1.1 q.1.2 q.2.1 q.2.2)
      have LV2 := Lib.hid (fun w => levels_any w M E p.1.1 p.1.2 p.2.1 p.2.2)
      have BE1 := Lib.hid (fun w t oa n oc (h4 : 0 ≤ t) (h5 : t ≤ 1000000) h => levelBehind_any w D L t oa n oc q.2.1 q.1.1 q.1.2 h4 h5 h)
      have BE2 := Lib.hid (fun w t oa n oc (h4 : 0 ≤ t) (h5 : t ≤ 1000000) h => levelBehind_any w E M t oa n oc p.2.1 p.1.1 p.1.2 h4 h5 h)
      have hle := fmN_le q.2.1 q.1 p.2.1 p.1
      have hit := Lib.hid (fmN_hit q.2.1 q.1 p.2.1 p.1)
      have bef := Lib.hid (fun j => fmN_before q.2.1 q.1 p.2.1 p.1 (j := j))
      obtain ⟨n, en⟩ : ∃ n, n = fmN L D M E := ⟨_, rfl⟩
      rw [← en] at hle hit bef HM
      clear hg hx q p en
      refine gc_seq (gc_code plain_shut rfl ⟨_, Try.func25⟩ (by kernel_rfl) rfl hn1 fun K R hK hR τ => ?_)
      clear hR
      have b0' : (Meta.wt w1 τ 0).cell? ⟨B, 0, none⟩ = some (.int .i64 L) := b0
      have b1' : (Meta.wt w1 τ 0).cell? ⟨B, 1, none⟩ = some (.int .i64 D) := b1
      have d0' : (Meta.wt w1 τ 0).cell? ⟨B + 1, 0, none⟩ = some (.int .i64 M) := d0
      have d1' : (Meta.wt w1 τ 0).cell? ⟨B + 1, 1, none⟩ = some (.int .i64 E) := d1
      clear b0 b1 d0 d1
      go_wp2_with fail
      refine (iIsClock_any _ _ _).mono ?_
      rintro e w2 ⟨rfl, n_w2⟩
      have N2 : NH w w2 := N1.trans ⟨n_w2.size, n_w2.block⟩
      have b0 : w2.cell? ⟨B, 0, none⟩ = some (.int .i64 L) := n_w2.cell b0'
      have b1 : w2.cell? ⟨B, 1, none⟩ = some (.int .i64 D) := n_w2.cell b1'
      have d0 : w2.cell? ⟨B + 1, 0, none⟩ = some (.int .i64 M) := n_w2.cell d0'
      have d1 : w2.cell? ⟨B + 1, 1, none⟩ = some (.int .i64 E) := n_w2.cell d1'
      rw [G.out]
      clear n_w2 b0' b1' d0' d1' N1 hn1
      go_wp2_with fail
      refine (iIsClock_any _ _ _).mono ?_
      rintro e w3 ⟨rfl, n_w3⟩
      have N3 : NH w w3 := N2.trans ⟨n_w3.size, n_w3.block⟩
      have e0 : w3.cell? ⟨B, 0, none⟩ = some (.int .i64 L) := n_w3.cell b0
      have e1 : w3.cell? ⟨B, 1, none⟩ = some (.int .i64 D) := n_w3.cell b1
      have g0 : w3.cell? ⟨B + 1, 0, none⟩ = some (.int .i64 M) := n_w3.cell d0
      have g1 : w3.cell? ⟨B + 1, 1, none⟩ = some (.int .i64 E) := n_w3.cell d1
      rw [X.out]
      clear n_w3 b0 b1 d0 d1 N2
      go_wp2
      intro hn3
      refine gc_seq (gc_drawn_rel 31 [(2, .pointer (some ⟨B, 0, none⟩)), (3, .pointer (some ⟨B + 1, 0, none⟩)), (4, .int .i64 0)] [] (fmR B L D M E) NH (fun W => NH w W ∧ B + 2 ≤ W.heap.size ∧ (W.cell? ⟨B, 0, none⟩ = some (.int .i64 L) ∧ W.cell? ⟨B, 1, none⟩ = some (.int .i64 D)) ∧ W.cell? ⟨B + 1, 0, none⟩ = some (.int .i64 M) ∧ W.cell? ⟨B + 1, 1, none⟩ = some (.int .i64 E))
        rfl (by kernel_rfl) (fmR_keep B L D M E) ?_ ?_ ?_ ⟨rfl, rfl, by simp⟩ ⟨N3, by have := World.block_lt_of_cell? _ _ g0; simp only at this; omega, ⟨e0, e1⟩, g0, g1⟩ hn3)
      · rintro W W' h ⟨h1, h2, h3, h4, h5⟩
        exact ⟨h1.trans h, Nat.le_trans h2 h.sz, ⟨h.cell h3.1, h.cell h3.2⟩, h.cell h4, h.cell h5⟩
      · intro i o ho a W hb hW hdep hnx rest next
        obtain ⟨bs, bd, bk⟩ := hb
        obtain ⟨k1, k2, ⟨k3, k4⟩, k5, k6⟩ := hW
        have t2 : a.tmps[2]? = some (.pointer (some ⟨B, 0, none⟩)) := bk (2, _) (by simp)
        have t3 : a.tmps[3]? = some (.pointer (some ⟨B + 1, 0, none⟩)) := bk (3, _) (by simp)
        clear bk
        rcases i with _ | _ | _ | _ | _ | _ | i
        · obtain rfl := Option.some.inj ho
          refine gc_val (v := .agg #[.int .i64 L, .int .i64 D]) rfl ho rfl (by rfl) hnx (by intro τ d; have q0 : (Meta.wt W τ d).cell? ⟨B, 0, none⟩ = some (.int .i64 L) := k3; have q1 : (Meta.wt W τ d).cell? ⟨B, 1, none⟩ = some (.int .i64 D) := k4; simp [execOp, go_sem, t2, q0, q1]) (next _ _ rfl (NH.refl _) hnx)
        · obtain rfl := Option.some.inj ho
          obtain ⟨v0, rfl, s0⟩ := hdep ⟨0, .data⟩ (by simp) rfl
          have ts := s0 17 rfl
          refine gc_call rfl ho rfl rfl Try.func32 (by rfl) rfl hnx (Post := TicksPost W (levL D L)) ?_ fun v w3 hp hn3 => ?_
          · rw [show Array.map a.eval #[Operand.tmp 17] = #[.agg #[.int .i64 L, .int .i64 D]] from by simp [eval_tmp ts]]
            exact LV1.out _
          · obtain ⟨oa, n, oc, rfl, own, nh⟩ := ticks_own hp
            exact next _ _ ⟨oa, n, oc, _, rfl, own.mono k2 (Nat.le_refl _)⟩ nh hn3
        · obtain rfl := Option.some.inj ho
          refine gc_val (v := .agg #[.int .i64 M, .int .i64 E]) rfl ho rfl (by rfl) hnx (by intro τ d; have q0 : (Meta.wt W τ d).cell? ⟨B + 1, 0, none⟩ = some (.int .i64 M) := k5; have q1 : (Meta.wt W τ d).cell? ⟨B + 1, 1, none⟩ = some (.int .i64 E) := k6; simp [execOp, go_sem, t3, q0, q1]) (next _ _ rfl (NH.refl _) hnx)
        · obtain rfl := Option.some.inj ho
          obtain ⟨v0, rfl, s0⟩ := hdep ⟨2, .data⟩ (by simp) rfl
          have ts := s0 19 rfl
          refine gc_call rfl ho rfl rfl Try.func32 (by rfl) rfl hnx (Post := TicksPost W (levL E M)) ?_ fun v w3 hp hn3 => ?_
          · rw [show Array.map a.eval #[Operand.tmp 19] = #[.agg #[.int .i64 M, .int .i64 E]] from by simp [eval_tmp ts]]
            exact LV2.out _
          · obtain ⟨oa, n, oc, rfl, own, nh⟩ := ticks_own hp
            exact next _ _ ⟨oa, n, oc, _, rfl, own.mono k2 (Nat.le_refl _)⟩ nh hn3
        · obtain rfl := Option.some.inj ho
          obtain ⟨v0, hv, s0⟩ := hdep ⟨1, .data⟩ (by simp) rfl
          have ts := s0 18 rfl
          refine gc_assign rfl ho rfl hnx rfl ?_
          rw [eval_tmp ts]
          exact next _ _ hv (NH.refl _) hnx
        · obtain rfl := Option.some.inj ho
          obtain ⟨v0, hv, s0⟩ := hdep ⟨3, .data⟩ (by simp) rfl
          have ts := s0 20 rfl
          refine gc_assign rfl ho rfl hnx rfl ?_
          rw [eval_tmp ts]
          exact next _ _ hv (NH.refl _) hnx
        · simp at ho
      · intro a W hb hW hg hnx
        obtain ⟨bs, bd, bk⟩ := hb
        obtain ⟨k1, k2, -, -, -⟩ := hW
        have t4 : a.tmps[4]? = some (.int .i64 0) := bk (4, _) (by simp)
        obtain ⟨v6, ⟨oa, ln, oc, hi, rfl, own⟩, s6⟩ := hg 4 (by simp)
        obtain ⟨v7, ⟨oa', ln', oc', hi', rfl, own'⟩, s7⟩ := hg 5 (by simp)
        have t6 := s6 6 rfl
        have t7 := s7 7 rfl
        clear bk s6 s7 hg
        obtain ⟨⟨l⟩, df⟩ := a
        simp only at bd
        subst bd
        simp only [List.size_toArray] at bs
        obtain ⟨x0, t0', rfl, q0⟩ := len_cons bs
        obtain ⟨x1, t1', rfl, q1⟩ := len_cons q0
        clear q0
        obtain ⟨x2, t2', rfl, q2⟩ := len_cons q1
        clear q1
        obtain ⟨x3, t3', rfl, q3⟩ := len_cons q2
        clear q2
        obtain ⟨x4, t4', rfl, q4⟩ := len_cons q3
        clear q3
        obtain ⟨x5, t5', rfl, q5⟩ := len_cons q4
        clear q4
        obtain ⟨x6, t6', rfl, q6⟩ := len_cons q5
        clear q5
        obtain ⟨x7, t7', rfl, q7⟩ := len_cons q6
        clear q6
        obtain ⟨x8, t8', rfl, q8⟩ := len_cons q7
        clear q7
        obtain ⟨x9, t9', rfl, q9⟩ := len_cons q8
        clear q8
        obtain ⟨x10, t10', rfl, q10⟩ := len_cons q9
        clear q9
        obtain ⟨x11, t11', rfl, q11⟩ := len_cons q10
        clear q10
        obtain ⟨x12, t12', rfl, q12⟩ := len_cons q11
        clear q11
        obtain ⟨x13, t13', rfl, q13⟩ := len_cons q12
        clear q12
        obtain ⟨x14, t14', rfl, q14⟩ := len_cons q13
        clear q13
        obtain ⟨x15, t15', rfl, q15⟩ := len_cons q14
        clear q14
        obtain ⟨x16, t16', rfl, q16⟩ := len_cons q15
        clear q15
        obtain ⟨x17, t17', rfl, q17⟩ := len_cons q16
        clear q16
        obtain ⟨x18, t18', rfl, q18⟩ := len_cons q17
        clear q17
        obtain ⟨x19, t19', rfl, q19⟩ := len_cons q18
        clear q18
        obtain ⟨x20, t20', rfl, q20⟩ := len_cons q19
        clear q19
        obtain ⟨x21, t21', rfl, q21⟩ := len_cons q20
        clear q20
        obtain ⟨x22, t22', rfl, q22⟩ := len_cons q21
        clear q21
        obtain ⟨x23, t23', rfl, q23⟩ := len_cons q22
        clear q22
        obtain ⟨x24, t24', rfl, q24⟩ := len_cons q23
        clear q23
        obtain ⟨x25, t25', rfl, q25⟩ := len_cons q24
        clear q24
        obtain ⟨x26, t26', rfl, q26⟩ := len_cons q25
        clear q25
        obtain ⟨x27, t27', rfl, q27⟩ := len_cons q26
        clear q26
        obtain ⟨x28, t28', rfl, q28⟩ := len_cons q27
        clear q27
        obtain ⟨x29, t29', rfl, q29⟩ := len_cons q28
        clear q28
        obtain ⟨x30, t30', rfl, q30⟩ := len_cons q29
        clear q29
        obtain rfl := List.length_eq_zero_iff.1 q30
        clear q30
        simp only [List.getElem?_toArray, List.getElem?_cons_succ, List.getElem?_cons_zero, Option.some.injEq] at t4 t6 t7
        subst t4 t6 t7
        have W1 := Lib.hid own.ints
        have W2 := Lib.hid own'.ints
        have KK := Lib.hid k1
        clear own own' k1
        refine gc_code plain_shut rfl ⟨_, Try.func25⟩ (by kernel_rfl) rfl hnx fun K R hK hR τ => ?_
        clear hK
        obtain ⟨u, hu⟩ : ∃ u, u = Meta.wt W τ 0 := ⟨_, rfl⟩
        have U1 := Lib.hid (show Ints u oa ln oc (levL D L) by rw [hu]; exact W1.out)
        have U2 := Lib.hid (show Ints u oa' ln' oc' (levL E M) by rw [hu]; exact W2.out)
        have UK := Lib.hid (show NH w u by rw [hu]; exact KK.out.wt τ 0)
        rw [← hu]
        clear hu W1 W2 KK hnx
        go_wp2
        go_loopw [8] (fun v wr => ∃ j : Nat, j ≤ n ∧ v = .int .i64 (j : Int) ∧ New u wr) (fun v _ => 1001 - (intOf v).toNat)
        case atStart => exact ⟨0, Nat.zero_le _, rfl, New.refl _⟩
        case round =>
          obtain ⟨j, hj, rfl, hnw⟩ := hrel
          have NW := Lib.hid hnw; clear hnw
          have C1 := Lib.hid (fun wx (h : New u wx) => BE1.out wx (j : Int) oa ln oc (by omega) (by omega) (U1.out.new h))
          have C2 := Lib.hid (fun wx (h : New u wx) => BE2.out wx (j : Int) oa' ln' oc' (by omega) (by omega) (U2.out.new h))
          rw [Int.toNat_natCast] at C1 C2
          by_cases hlt : j < n
          · have hne := bef.out j hlt
            obtain ⟨x, hx⟩ : ∃ x, x = levK D L j := ⟨_, rfl⟩
            obtain ⟨y, hy⟩ : ∃ y, y = levK E M j := ⟨_, rfl⟩
            rw [← hx] at hne C1
            rw [← hy] at hne C2
            clear hx hy
            have gk : IntKind.i64.wrap ((j : Int) + 1) = (j : Int) + 1 := i64_in _ (by omega)
            go_wp2_with fail
            refine (C1.out _ NW.out).mono ?_
            rintro e w3 ⟨rfl, n3⟩
            have N3 := Lib.hid (NW.out.trans n3); clear n3
            go_wp2_with fail
            refine (C2.out _ N3.out).mono ?_
            rintro e w4 ⟨rfl, n4⟩
            have N4 := Lib.hid (N3.out.trans n4); clear n4
            go_wp2
            go_roundw
            case rel => exact ⟨j + 1, by omega, by push_cast; rfl, N4.out⟩
            case measure => simp [intOf]; omega
          · obtain rfl : j = n := by omega
            have he := hit.out
            obtain ⟨x, hx⟩ : ∃ x, x = levK D L j := ⟨_, rfl⟩
            rw [← hx] at he C1
            rw [← he] at C2
            clear he hx
            go_wp2_with fail
            refine (C1.out _ NW.out).mono ?_
            rintro e w3 ⟨rfl, n3⟩
            have N3 := Lib.hid (NW.out.trans n3); clear n3
            go_wp2_with fail
            refine (C2.out _ N3.out).mono ?_
            rintro e w4 ⟨rfl, n4⟩
            have N4 := Lib.hid (N3.out.trans n4); clear n4
            go_wp2
            intro hn5 todo
            refine gc_leave rfl Try.func25 rfl (v := .tuple #[.int .i64 (j : Int), .bool true]) (fun τ d => by simp [results, Try.results25, go_sem]) (hnext _ _ ⟨by rw [HM.out.1, HM.out.2], UK.out.trans (NH.of_new N4.out)⟩ hn5)
    · have hf := bool_nt hx
      have HM := Lib.hid (show fmB L D M E = false ∧ fmM L D M E = 0 by
        have e : fmB L D M E = false := by unfold fmB; rw [hf]; simp
        exact ⟨e, by unfold fmM; rw [e]; rfl⟩)
      have X := Lib.hid hf
      clear hg hx hf q
      refine gc_seq (gc_code plain_shut rfl ⟨_, Try.func25⟩ (by kernel_rfl) rfl hn1 fun K R hK hR τ => ?_)
      clear hK
      have b0' : (Meta.wt w1 τ 0).cell? ⟨B, 0, none⟩ = some (.int .i64 L) := b0
      have b1' : (Meta.wt w1 τ 0).cell? ⟨B, 1, none⟩ = some (.int .i64 D) := b1
      have d0' : (Meta.wt w1 τ 0).cell? ⟨B + 1, 0, none⟩ = some (.int .i64 M) := d0
      have d1' : (Meta.wt w1 τ 0).cell? ⟨B + 1, 1, none⟩ = some (.int .i64 E) := d1
      clear b0 b1 d0 d1
      go_wp2_with fail
      refine (iIsClock_any _ _ _).mono ?_
      rintro e w2 ⟨rfl, n_w2⟩
      have N2 : NH w w2 := N1.trans ⟨n_w2.size, n_w2.block⟩
      have b0 : w2.cell? ⟨B, 0, none⟩ = some (.int .i64 L) := n_w2.cell b0'
      have b1 : w2.cell? ⟨B, 1, none⟩ = some (.int .i64 D) := n_w2.cell b1'
      have d0 : w2.cell? ⟨B + 1, 0, none⟩ = some (.int .i64 M) := n_w2.cell d0'
      have d1 : w2.cell? ⟨B + 1, 1, none⟩ = some (.int .i64 E) := n_w2.cell d1'
      rw [G.out]
      clear n_w2 b0' b1' d0' d1' N1 hn1
      go_wp2_with fail
      refine (iIsClock_any _ _ _).mono ?_
      rintro e w3 ⟨rfl, n_w3⟩
      have N3 : NH w w3 := N2.trans ⟨n_w3.size, n_w3.block⟩
      have e0 : w3.cell? ⟨B, 0, none⟩ = some (.int .i64 L) := n_w3.cell b0
      have e1 : w3.cell? ⟨B, 1, none⟩ = some (.int .i64 D) := n_w3.cell b1
      have g0 : w3.cell? ⟨B + 1, 0, none⟩ = some (.int .i64 M) := n_w3.cell d0
      have g1 : w3.cell? ⟨B + 1, 1, none⟩ = some (.int .i64 E) := n_w3.cell d1
      rw [X.out]
      clear n_w3 b0 b1 d0 d1 N2
      go_wp2
      intro hn3 todo
      refine gc_leave rfl Try.func25 rfl (v := .tuple #[.int .i64 0, .bool false]) (fun τ d => by simp [results, Try.results25, go_sem]) (hnext _ _ ⟨by rw [HM.out.1, HM.out.2], N3⟩ hn3)
  · have hf := bool_nt hg
    have HM := Lib.hid (show fmB L D M E = false ∧ fmM L D M E = 0 by
        have e : fmB L D M E = false := by unfold fmB; rw [hf]; rfl
        exact ⟨e, by unfold fmM; rw [e]; rfl⟩)
    have G := Lib.hid hf
    clear hg hf
    refine gc_seq (gc_code plain_shut rfl ⟨_, Try.func25⟩ (by kernel_rfl) rfl hn1 fun K R hK hR τ => ?_)
    clear hK
    have b0' : (Meta.wt w1 τ 0).cell? ⟨B, 0, none⟩ = some (.int .i64 L) := b0
    have b1' : (Meta.wt w1 τ 0).cell? ⟨B, 1, none⟩ = some (.int .i64 D) := b1
    have d0' : (Meta.wt w1 τ 0).cell? ⟨B + 1, 0, none⟩ = some (.int .i64 M) := d0
    have d1' : (Meta.wt w1 τ 0).cell? ⟨B + 1, 1, none⟩ = some (.int .i64 E) := d1
    clear b0 b1 d0 d1
    go_wp2_with fail
    refine (iIsClock_any _ _ _).mono ?_
    rintro e w2 ⟨rfl, n_w2⟩
    have N2 : NH w w2 := N1.trans ⟨n_w2.size, n_w2.block⟩
    have b0 : w2.cell? ⟨B, 0, none⟩ = some (.int .i64 L) := n_w2.cell b0'
    have b1 : w2.cell? ⟨B, 1, none⟩ = some (.int .i64 D) := n_w2.cell b1'
    have d0 : w2.cell? ⟨B + 1, 0, none⟩ = some (.int .i64 M) := n_w2.cell d0'
    have d1 : w2.cell? ⟨B + 1, 1, none⟩ = some (.int .i64 E) := n_w2.cell d1'
    rw [G.out]
    clear n_w2 b0' b1' d0' d1' N1 hn1
    go_wp2
    intro hn3 todo
    refine gc_leave rfl Try.func25 rfl (v := .tuple #[.int .i64 0, .bool false]) (fun τ d => by simp [results, Try.results25, go_sem]) (hnext _ _ ⟨by rw [HM.out.1, HM.out.2], N2⟩ hn3)
end Go.Proofs.Ytnahlemchajfdaa
