/- The worker of a clock's ticks. -/
import Derived.Test.YtnahlemchajfdaaMt4
import Derived.Test.YtnahlemchajfdaaRows
import Derived.KernelRfl
namespace Go.Proofs.Ytnahlemchajfdaa.Meta
open Go Go.Conc Go.Proofs

section
variable {K : World → Prop} {Still : Loc → Prop} {B : Nat} {T : Goroutine → Prop} {cs : List Frame}

/-- A divided by b, rounded up, in the machine's numbers. -/
structure Up (x d : Int) : Prop where
  s1 : IntKind.i64.wrap (x + d) = x + d
  s2 : IntKind.i64.wrap (x + d - 1) = x + d - 1
  d0 : d ≠ 0
  s3 : IntKind.i64.wrap ((x + d - 1).tdiv d) = (x + d - 1).tdiv d
  s4 : IntKind.i64.wrap (x - (x + d - 1).tdiv d) = x - (x + d - 1).tdiv d
def nx (d x : Int) : Int := x - (x + d - 1).tdiv d

/-- A read of a still cell. -/
theorem rd_cell {Still : Loc → Prop} {B : Nat} {p : Addr} (hs : Still (.cell p)) (hb : p.block < B) : RdEv Still B ⟨.cell p, false, false⟩ :=
  ⟨fun b hb' => by
    have : some (⟨.cell p, false, .plain⟩ : Touch) = some b := hb'
    cases this
    exact ⟨rfl, hs⟩, by simp, by simp, hb⟩

/-- quotientUp. -/
theorem pu_42 {x d : Int} (hu : Up x d) {c : Frame} (h : Pu Try.prog K Still B T (G (c.finish (.int .i64 ((x + d - 1).tdiv d))) cs)) :
    Pu Try.prog K Still B T (G (Frame.enter Try.prog 42 #[.int .i64 x, .int .i64 d] .normal) (c :: cs)) := by
  rw [enter_at _ Try.func42 rfl]
  refine pu_act (a' := ⟨#[.int .i64 (x), .int .i64 (d), undef, undef, undef, undef, undef, undef, undef, undef, undef], []⟩) (by simp only [Try.ntmps42, List.size_toArray, List.length_cons, List.length_nil, Nat.reduceAdd, Nat.reduceSub, Array.replicate_succ, Array.replicate_zero, List.push_toArray, List.append_toArray, List.nil_append, List.cons_append]) ?_
  refine pu_seq (pu_region ?_)
  refine pu_assign (by rfl) rfl (by simp [base, baseD]) rfl ?_
  refine pu_act (a' := ⟨#[.int .i64 (x), .int .i64 (d), undef, undef, .int .i64 (0), undef, undef, undef, undef, undef, undef], []⟩) rfl ?_
  refine pu_nil ?_
  refine pu_seq (pu_region ?_)
  refine pu_move (by rfl) rfl (by simp [base, baseD]) rfl ?_
  refine pu_act (a' := ⟨#[.int .i64 (x), .int .i64 (d), undef, undef, .int .i64 (0), .int .i64 (x), undef, undef, undef, undef, undef], []⟩) rfl ?_
  refine pu_move (by rfl) rfl (by simp [base, baseD]) rfl ?_
  refine pu_act (a' := ⟨#[.int .i64 (x), .int .i64 (d), undef, undef, .int .i64 (0), .int .i64 (x), .int .i64 (d), undef, undef, undef, undef], []⟩) rfl ?_
  refine pu_val (v := .int .i64 (x + d)) (by rfl) rfl (by simp [base, baseD]) (by intro w _; simp [execOp, go_sem, hu.s1]) (by intro w _ x hx; simp [execOp, go_sem] at hx) ?_
  refine pu_act (a' := ⟨#[.int .i64 (x), .int .i64 (d), undef, undef, .int .i64 (0), .int .i64 (x), .int .i64 (d), .int .i64 (x + d), undef, undef, undef], []⟩) rfl ?_
  refine pu_val (v := .int .i64 (x + d - 1)) (by rfl) rfl (by simp [base, baseD]) (by intro w _; simp [execOp, go_sem, hu.s2]) (by intro w _ x hx; simp [execOp, go_sem] at hx) ?_
  refine pu_act (a' := ⟨#[.int .i64 (x), .int .i64 (d), undef, undef, .int .i64 (0), .int .i64 (x), .int .i64 (d), .int .i64 (x + d), .int .i64 (x + d - 1), undef, undef], []⟩) rfl ?_
  refine pu_move (by rfl) rfl (by simp [base, baseD]) rfl ?_
  refine pu_act (a' := ⟨#[.int .i64 (x), .int .i64 (d), undef, undef, .int .i64 (0), .int .i64 (x), .int .i64 (d), .int .i64 (x + d), .int .i64 (x + d - 1), .int .i64 (d), undef], []⟩) rfl ?_
  refine pu_val (v := .int .i64 ((x + d - 1).tdiv d)) (by rfl) rfl (by simp [base, baseD]) (by intro w _; simp [execOp, go_sem, hu.d0, hu.s3]) (by intro w _ x hx; simp [execOp, go_sem] at hx) ?_
  refine pu_act (a' := ⟨#[.int .i64 (x), .int .i64 (d), undef, undef, .int .i64 (0), .int .i64 (x), .int .i64 (d), .int .i64 (x + d), .int .i64 (x + d - 1), .int .i64 (d), .int .i64 ((x + d - 1).tdiv d)], []⟩) rfl ?_
  refine pu_assign (by rfl) rfl (by simp [base, baseD]) rfl ?_
  refine pu_act (a' := ⟨#[.int .i64 (x), .int .i64 (d), undef, undef, .int .i64 ((x + d - 1).tdiv d), .int .i64 (x), .int .i64 (d), .int .i64 (x + d), .int .i64 (x + d - 1), .int .i64 (d), .int .i64 ((x + d - 1).tdiv d)], []⟩) rfl ?_
  refine pu_nil ?_
  refine pu_ret fun todo => ?_
  exact pu_leave rfl rfl Try.func42 (fun w => ⟨results_tmp (t := 4) rfl _ _ _, events_results_tmp (t := 4) rfl _ _⟩) h

/-- goesOn. -/
theorem pu_43 {t x : Int} {c : Frame} (h : Pu Try.prog K Still B T (G (c.finish (.bool (decide (0 < x)))) cs)) :
    Pu Try.prog K Still B T (G (Frame.enter Try.prog 43 #[.int .i64 t, .int .i64 x] .normal) (c :: cs)) := by
  rw [enter_at _ Try.func43 rfl]
  refine pu_act (a' := ⟨#[.int .i64 (t), .int .i64 (x), undef, undef, undef, undef, undef], []⟩) (by simp only [Try.ntmps43, List.size_toArray, List.length_cons, List.length_nil, Nat.reduceAdd, Nat.reduceSub, Array.replicate_succ, Array.replicate_zero, List.push_toArray, List.append_toArray, List.nil_append, List.cons_append]) ?_
  refine pu_seq (pu_region ?_)
  refine pu_assign (by rfl) rfl (by simp [base, baseD]) rfl ?_
  refine pu_act (a' := ⟨#[.int .i64 (t), .int .i64 (x), undef, undef, .bool false, undef, undef], []⟩) rfl ?_
  refine pu_nil ?_
  refine pu_seq (pu_region ?_)
  refine pu_move (by rfl) rfl (by simp [base, baseD]) rfl ?_
  refine pu_act (a' := ⟨#[.int .i64 (t), .int .i64 (x), undef, undef, .bool false, .int .i64 (x), undef], []⟩) rfl ?_
  refine pu_val (v := .bool (decide (0 < x))) (by rfl) rfl (by simp [base, baseD]) (by intro w _; simp [execOp, go_sem]) (by intro w _ x hx; simp [execOp, go_sem] at hx) ?_
  refine pu_act (a' := ⟨#[.int .i64 (t), .int .i64 (x), undef, undef, .bool false, .int .i64 (x), .bool (decide (0 < x))], []⟩) rfl ?_
  refine pu_assign (by rfl) rfl (by simp [base, baseD]) rfl ?_
  refine pu_act (a' := ⟨#[.int .i64 (t), .int .i64 (x), undef, undef, .bool (decide (0 < x)), .int .i64 (x), .bool (decide (0 < x))], []⟩) rfl ?_
  refine pu_nil ?_
  refine pu_ret fun todo => ?_
  exact pu_leave rfl rfl Try.func43 (fun w => ⟨results_tmp (t := 4) rfl _ _ _, events_results_tmp (t := 4) rfl _ _⟩) h

/-- next. -/
theorem pu_41 {x d : Int} {bC : Nat} (hu : Up x d) (hC : ∀ w, K w → w.cell? ⟨bC, 1, none⟩ = some (.int .i64 d)) (hs : Still (.cell ⟨bC, 1, none⟩)) (hb : bC < B) {c : Frame} (h : Pu Try.prog K Still B T (G (c.finish (.int .i64 (nx d x))) cs)) :
    Pu Try.prog K Still B T (G (Frame.enter Try.prog 41 #[.int .i64 x, .pointer (some ⟨bC, 0, none⟩)] .normal) (c :: cs)) := by
  rw [enter_at _ Try.func41 rfl]
  refine pu_act (a' := ⟨#[.int .i64 (x), .pointer (some ⟨bC, 0, none⟩), undef, undef, undef, undef, undef, undef, undef, undef], []⟩) (by simp only [Try.ntmps41, List.size_toArray, List.length_cons, List.length_nil, Nat.reduceAdd, Nat.reduceSub, Array.replicate_succ, Array.replicate_zero, List.push_toArray, List.append_toArray, List.nil_append, List.cons_append]) ?_
  refine pu_seq (pu_region ?_)
  refine pu_assign (by rfl) rfl (by simp [base, baseD]) rfl ?_
  refine pu_act (a' := ⟨#[.int .i64 (x), .pointer (some ⟨bC, 0, none⟩), undef, .int .i64 (0), undef, undef, undef, undef, undef, undef], []⟩) rfl ?_
  refine pu_nil ?_
  refine pu_seq (pu_region ?_)
  refine pu_move (by rfl) rfl (by simp [base, baseD]) rfl ?_
  refine pu_act (a' := ⟨#[.int .i64 (x), .pointer (some ⟨bC, 0, none⟩), undef, .int .i64 (0), .int .i64 (x), undef, undef, undef, undef, undef], []⟩) rfl ?_
  refine pu_move (by rfl) rfl (by simp [base, baseD]) rfl ?_
  refine pu_act (a' := ⟨#[.int .i64 (x), .pointer (some ⟨bC, 0, none⟩), undef, .int .i64 (0), .int .i64 (x), .int .i64 (x), undef, undef, undef, undef], []⟩) rfl ?_
  refine pu_val (v := .pointer (some ⟨bC, 1, none⟩)) (by rfl) rfl (by simp [base, baseD]) (by intro w _; simp [execOp, go_sem]) (by intro w _ x hx; simp [execOp, go_sem] at hx) ?_
  refine pu_act (a' := ⟨#[.int .i64 (x), .pointer (some ⟨bC, 0, none⟩), undef, .int .i64 (0), .int .i64 (x), .int .i64 (x), .pointer (some ⟨bC, 1, none⟩), undef, undef, undef], []⟩) rfl ?_
  refine pu_val (v := .int .i64 (d)) (by rfl) rfl (by simp [base, baseD]) (by intro w hK; have hc := hC w hK; simp [execOp, go_sem, hc]) (by intro w hK x hx; have hc := hC w hK; simp [execOp, go_sem, hc] at hx; subst hx; exact rd_cell hs hb) ?_
  refine pu_act (a' := ⟨#[.int .i64 (x), .pointer (some ⟨bC, 0, none⟩), undef, .int .i64 (0), .int .i64 (x), .int .i64 (x), .pointer (some ⟨bC, 1, none⟩), .int .i64 (d), undef, undef], []⟩) rfl ?_
  refine pu_call (av := #[.int .i64 (x), .int .i64 (d)]) (by rfl) rfl (by simp [base, baseD]) rfl rfl Try.func42 (by rfl) rfl (by simp [Act.eval]) ?_
  refine pu_42 hu ?_
  rw [Frame.finish_at]
  refine pu_act (a' := ⟨#[.int .i64 (x), .pointer (some ⟨bC, 0, none⟩), undef, .int .i64 (0), .int .i64 (x), .int .i64 (x), .pointer (some ⟨bC, 1, none⟩), .int .i64 (d), .int .i64 ((x + d - 1).tdiv d), undef], []⟩) rfl ?_
  refine pu_val (v := .int .i64 (nx d x)) (by rfl) rfl (by simp [base, baseD]) (by intro w _; simp [execOp, go_sem, hu.s4, nx]) (by intro w _ x hx; simp [execOp, go_sem] at hx) ?_
  refine pu_act (a' := ⟨#[.int .i64 (x), .pointer (some ⟨bC, 0, none⟩), undef, .int .i64 (0), .int .i64 (x), .int .i64 (x), .pointer (some ⟨bC, 1, none⟩), .int .i64 (d), .int .i64 ((x + d - 1).tdiv d), .int .i64 (nx d x)], []⟩) rfl ?_
  refine pu_assign (by rfl) rfl (by simp [base, baseD]) rfl ?_
  refine pu_act (a' := ⟨#[.int .i64 (x), .pointer (some ⟨bC, 0, none⟩), undef, .int .i64 (nx d x), .int .i64 (x), .int .i64 (x), .pointer (some ⟨bC, 1, none⟩), .int .i64 (d), .int .i64 ((x + d - 1).tdiv d), .int .i64 (nx d x)], []⟩) rfl ?_
  refine pu_nil ?_
  refine pu_ret fun todo => ?_
  exact pu_leave rfl rfl Try.func41 (fun w => ⟨results_tmp (t := 3) rfl _ _ _, events_results_tmp (t := 3) rfl _ _⟩) h

/-- The loop of sendTicks. -/
noncomputable def c45 : Code := match Try.f45.body with
  | some (.seq _ (.block _ (.loop c))) => c
  | _ => .skip
noncomputable def o44 : Array Oper := match Try.f44.body with
  | some (.seq _ (.region _ ops _)) => ops
  | _ => #[]

def dl (d : Int) : Nat → Int → List Value
  | 0, _ => []
  | n + 1, s => if 0 < s then .int .i64 (nx d s) :: dl d n (nx d s) else []

section
variable {c e bC : Nat} {d : Int} {ats : Array TypeId} {ty : TypeId} {q : Array Bool} {t0 t1 t2 t3 t4 t5 t6 t7 t8 t9 t10 : Value}
theorem w_close {s tick : Int} {u4 u5 u6 u7 u9 u10 u11 u12 u13 u14 u15 u16 u17 u18 u19 : Value} (hs : ¬ 0 < s) (he : e < B) (hse : Still (.obj e)) :
    Pu Try.prog K Still B (CloseAt Try.prog K Still e B) (G ((base 45).at ⟨#[.chan (some c), .int .i64 (s), .func (.func 41) #[] #[.pointer (some ⟨bC, 0, none⟩)], .func (.func 43) #[] #[], u4, u5, u6, u7, .int .i64 (tick), u9, u10, u11, u12, u13, u14, u15, u16, u17, u18, u19], []⟩ [.code c45, .inLoop c45, .inBlock 0]) [(baseD 44).at ⟨#[t0, t1, t2, t3, t4, t5, t6, t7, t8, t9, t10], [dclose e ats ty q]⟩ [.inRegion o44 [4]], bottom Try.prog]) := by
  refine pu_seq (pu_seq (pu_region ?_))
  refine pu_move (by rfl) rfl (by simp [base, baseD]) rfl ?_
  refine pu_act (a' := ⟨#[.chan (some c), .int .i64 (s), .func (.func 41) #[] #[.pointer (some ⟨bC, 0, none⟩)], .func (.func 43) #[] #[], u4, u5, u6, u7, .int .i64 (tick), .func (.func 43) #[] #[], u10, u11, u12, u13, u14, u15, u16, u17, u18, u19], []⟩) rfl ?_
  refine pu_move (by rfl) rfl (by simp [base, baseD]) rfl ?_
  refine pu_act (a' := ⟨#[.chan (some c), .int .i64 (s), .func (.func 41) #[] #[.pointer (some ⟨bC, 0, none⟩)], .func (.func 43) #[] #[], u4, u5, u6, u7, .int .i64 (tick), .func (.func 43) #[] #[], .int .i64 (tick), u11, u12, u13, u14, u15, u16, u17, u18, u19], []⟩) rfl ?_
  refine pu_move (by rfl) rfl (by simp [base, baseD]) rfl ?_
  refine pu_act (a' := ⟨#[.chan (some c), .int .i64 (s), .func (.func 41) #[] #[.pointer (some ⟨bC, 0, none⟩)], .func (.func 43) #[] #[], u4, u5, u6, u7, .int .i64 (tick), .func (.func 43) #[] #[], .int .i64 (tick), .int .i64 (s), u12, u13, u14, u15, u16, u17, u18, u19], []⟩) rfl ?_
  refine pu_call (av := #[.int .i64 (tick), .int .i64 (s)]) (by rfl) rfl (by simp [base, baseD]) rfl rfl Try.func43 (by rfl) rfl (by simp [Act.eval]) ?_
  refine pu_43 ?_
  rw [Frame.finish_at]
  refine pu_act (a' := ⟨#[.chan (some c), .int .i64 (s), .func (.func 41) #[] #[.pointer (some ⟨bC, 0, none⟩)], .func (.func 43) #[] #[], u4, u5, u6, u7, .int .i64 (tick), .func (.func 43) #[] #[], .int .i64 (tick), .int .i64 (s), .bool (decide (0 < s)), u13, u14, u15, u16, u17, u18, u19], []⟩) rfl ?_
  refine pu_nil ?_
  refine pu_cond (t := false) (by simp [Act.eval, hs]) ?_
  refine pu_exit (k' := []) rfl ?_
  refine pu_end fun todo => ?_
  refine pu_leave rfl rfl Try.func45 (fun w => ⟨results_none rfl _ _ _, events_results_none rfl _ _⟩) ?_
  rw [Frame.finish_at]
  refine pu_nil (pu_end fun todo2 => pu_done ?_)
  exact closeAt_of rfl Try.func44 rfl he hse

theorem w_loop (hC : ∀ w, K w → w.cell? ⟨bC, 1, none⟩ = some (.int .i64 d)) (hsC : Still (.cell ⟨bC, 1, none⟩)) (hbC : bC < B) (he : e < B) (hse : Still (.obj e)) :
    ∀ (n : Nat) (s : Int), s.toNat ≤ n → (∀ x, 0 < x → x ≤ s → Up x d ∧ nx d x < x) → ∀ (tick : Int) (u4 u5 u6 u7 u9 u10 u11 u12 u13 u14 u15 u16 u17 u18 u19 : Value),
      WGives Try.prog K Still c e (.tuple #[]) B (dl d n s) (G ((base 45).at ⟨#[.chan (some c), .int .i64 (s), .func (.func 41) #[] #[.pointer (some ⟨bC, 0, none⟩)], .func (.func 43) #[] #[], u4, u5, u6, u7, .int .i64 (tick), u9, u10, u11, u12, u13, u14, u15, u16, u17, u18, u19], []⟩ [.code c45, .inLoop c45, .inBlock 0]) [(baseD 44).at ⟨#[t0, t1, t2, t3, t4, t5, t6, t7, t8, t9, t10], [dclose e ats ty q]⟩ [.inRegion o44 [4]], bottom Try.prog]) := by
  intro n
  induction n with
  | zero =>
    intro s hn hU tick u4 u5 u6 u7 u9 u10 u11 u12 u13 u14 u15 u16 u17 u18 u19
    exact wg_nil (w_close (by omega) he hse)
  | succ n ih =>
    intro s hn hU tick u4 u5 u6 u7 u9 u10 u11 u12 u13 u14 u15 u16 u17 u18 u19
    by_cases hs : 0 < s
    · obtain ⟨hup, hlt⟩ := hU s hs (by omega)
      simp only [dl, if_pos hs]
      refine wg_cons ?_
      refine pu_seq (pu_seq (pu_region ?_))
      refine pu_move (by rfl) rfl (by simp [base, baseD]) rfl ?_
      refine pu_act (a' := ⟨#[.chan (some c), .int .i64 (s), .func (.func 41) #[] #[.pointer (some ⟨bC, 0, none⟩)], .func (.func 43) #[] #[], u4, u5, u6, u7, .int .i64 (tick), .func (.func 43) #[] #[], u10, u11, u12, u13, u14, u15, u16, u17, u18, u19], []⟩) rfl ?_
      refine pu_move (by rfl) rfl (by simp [base, baseD]) rfl ?_
      refine pu_act (a' := ⟨#[.chan (some c), .int .i64 (s), .func (.func 41) #[] #[.pointer (some ⟨bC, 0, none⟩)], .func (.func 43) #[] #[], u4, u5, u6, u7, .int .i64 (tick), .func (.func 43) #[] #[], .int .i64 (tick), u11, u12, u13, u14, u15, u16, u17, u18, u19], []⟩) rfl ?_
      refine pu_move (by rfl) rfl (by simp [base, baseD]) rfl ?_
      refine pu_act (a' := ⟨#[.chan (some c), .int .i64 (s), .func (.func 41) #[] #[.pointer (some ⟨bC, 0, none⟩)], .func (.func 43) #[] #[], u4, u5, u6, u7, .int .i64 (tick), .func (.func 43) #[] #[], .int .i64 (tick), .int .i64 (s), u12, u13, u14, u15, u16, u17, u18, u19], []⟩) rfl ?_
      refine pu_call (av := #[.int .i64 (tick), .int .i64 (s)]) (by rfl) rfl (by simp [base, baseD]) rfl rfl Try.func43 (by rfl) rfl (by simp [Act.eval]) ?_
      refine pu_43 ?_
      rw [Frame.finish_at]
      refine pu_act (a' := ⟨#[.chan (some c), .int .i64 (s), .func (.func 41) #[] #[.pointer (some ⟨bC, 0, none⟩)], .func (.func 43) #[] #[], u4, u5, u6, u7, .int .i64 (tick), .func (.func 43) #[] #[], .int .i64 (tick), .int .i64 (s), .bool (decide (0 < s)), u13, u14, u15, u16, u17, u18, u19], []⟩) rfl ?_
      refine pu_nil ?_
      refine pu_cond (t := true) (by simp [Act.eval, hs]) ?_
      refine pu_skip (pu_seq (pu_block (pu_seq (pu_region ?_))))
      refine pu_move (by rfl) rfl (by simp [base, baseD]) rfl ?_
      refine pu_act (a' := ⟨#[.chan (some c), .int .i64 (s), .func (.func 41) #[] #[.pointer (some ⟨bC, 0, none⟩)], .func (.func 43) #[] #[], u4, u5, u6, u7, .int .i64 (tick), .func (.func 43) #[] #[], .int .i64 (tick), .int .i64 (s), .bool (decide (0 < s)), u13, u14, .func (.func 41) #[] #[.pointer (some ⟨bC, 0, none⟩)], u16, u17, u18, u19], []⟩) rfl ?_
      refine pu_move (by rfl) rfl (by simp [base, baseD]) rfl ?_
      refine pu_act (a' := ⟨#[.chan (some c), .int .i64 (s), .func (.func 41) #[] #[.pointer (some ⟨bC, 0, none⟩)], .func (.func 43) #[] #[], u4, u5, u6, u7, .int .i64 (tick), .func (.func 43) #[] #[], .int .i64 (tick), .int .i64 (s), .bool (decide (0 < s)), u13, u14, .func (.func 41) #[] #[.pointer (some ⟨bC, 0, none⟩)], .int .i64 (s), u17, u18, u19], []⟩) rfl ?_
      refine pu_call (av := #[.int .i64 (s), .pointer (some ⟨bC, 0, none⟩)]) (by rfl) rfl (by simp [base, baseD]) rfl rfl Try.func41 (by rfl) rfl (by simp [Act.eval]) ?_
      refine pu_41 hup hC hsC hbC ?_
      rw [Frame.finish_at]
      refine pu_act (a' := ⟨#[.chan (some c), .int .i64 (s), .func (.func 41) #[] #[.pointer (some ⟨bC, 0, none⟩)], .func (.func 43) #[] #[], u4, u5, u6, u7, .int .i64 (tick), .func (.func 43) #[] #[], .int .i64 (tick), .int .i64 (s), .bool (decide (0 < s)), u13, u14, .func (.func 41) #[] #[.pointer (some ⟨bC, 0, none⟩)], .int .i64 (s), .int .i64 (nx d s), u18, u19], []⟩) rfl ?_
      refine pu_assign (by rfl) rfl (by simp [base, baseD]) rfl ?_
      refine pu_act (a' := ⟨#[.chan (some c), .int .i64 (nx d s), .func (.func 41) #[] #[.pointer (some ⟨bC, 0, none⟩)], .func (.func 43) #[] #[], u4, u5, u6, u7, .int .i64 (tick), .func (.func 43) #[] #[], .int .i64 (tick), .int .i64 (s), .bool (decide (0 < s)), u13, u14, .func (.func 41) #[] #[.pointer (some ⟨bC, 0, none⟩)], .int .i64 (s), .int .i64 (nx d s), u18, u19], []⟩) rfl ?_
      refine pu_nil ?_
      refine pu_region ?_
      refine pu_move (by rfl) rfl (by simp [base, baseD]) rfl ?_
      refine pu_act (a' := ⟨#[.chan (some c), .int .i64 (nx d s), .func (.func 41) #[] #[.pointer (some ⟨bC, 0, none⟩)], .func (.func 43) #[] #[], u4, u5, u6, u7, .int .i64 (tick), .func (.func 43) #[] #[], .int .i64 (tick), .int .i64 (s), .bool (decide (0 < s)), u13, u14, .func (.func 41) #[] #[.pointer (some ⟨bC, 0, none⟩)], .int .i64 (s), .int .i64 (nx d s), .chan (some c), u19], []⟩) rfl ?_
      refine pu_move (by rfl) rfl (by simp [base, baseD]) rfl ?_
      refine pu_act (a' := ⟨#[.chan (some c), .int .i64 (nx d s), .func (.func 41) #[] #[.pointer (some ⟨bC, 0, none⟩)], .func (.func 43) #[] #[], u4, u5, u6, u7, .int .i64 (tick), .func (.func 43) #[] #[], .int .i64 (tick), .int .i64 (s), .bool (decide (0 < s)), u13, u14, .func (.func 41) #[] #[.pointer (some ⟨bC, 0, none⟩)], .int .i64 (s), .int .i64 (nx d s), .chan (some c), .int .i64 (nx d s)], []⟩) rfl ?_
      refine pu_done (sendAt_of (by rfl) rfl (by simp [base, baseD]) rfl rfl rfl ?_)
      show WGives _ _ _ _ _ _ _ _ _
      rw [finish_send]
      refine wg_back (ih (nx d s) (by omega) (fun x h1 h2 => hU x h1 (by omega)) (IntKind.i64.wrap (tick + 1)) (u4) (u5) (u6) (u7) (.func (.func 43) #[] #[]) (.int .i64 (tick)) (.int .i64 (s)) (.bool (decide (0 < s))) (.int .i64 (tick)) (.int .i64 (IntKind.i64.wrap (tick + 1))) (.func (.func 41) #[] #[.pointer (some ⟨bC, 0, none⟩)]) (.int .i64 (s)) (.int .i64 (nx d s)) (.chan (some c)) (.int .i64 (nx d s))) (fun T hT => ?_)
      refine pu_act (a' := ⟨#[.chan (some c), .int .i64 (nx d s), .func (.func 41) #[] #[.pointer (some ⟨bC, 0, none⟩)], .func (.func 43) #[] #[], u4, u5, u6, u7, .int .i64 (tick), .func (.func 43) #[] #[], .int .i64 (tick), .int .i64 (s), .bool (decide (0 < s)), u13, u14, .func (.func 41) #[] #[.pointer (some ⟨bC, 0, none⟩)], .int .i64 (s), .int .i64 (nx d s), .chan (some c), .int .i64 (nx d s)], []⟩) rfl ?_
      refine pu_nil (pu_inBlock (pu_region ?_))
      refine pu_move (by rfl) rfl (by simp [base, baseD]) rfl ?_
      refine pu_act (a' := ⟨#[.chan (some c), .int .i64 (nx d s), .func (.func 41) #[] #[.pointer (some ⟨bC, 0, none⟩)], .func (.func 43) #[] #[], u4, u5, u6, u7, .int .i64 (tick), .func (.func 43) #[] #[], .int .i64 (tick), .int .i64 (s), .bool (decide (0 < s)), .int .i64 (tick), u14, .func (.func 41) #[] #[.pointer (some ⟨bC, 0, none⟩)], .int .i64 (s), .int .i64 (nx d s), .chan (some c), .int .i64 (nx d s)], []⟩) rfl ?_
      refine pu_val (v := .int .i64 (IntKind.i64.wrap (tick + 1))) (by rfl) rfl (by simp [base, baseD]) (by intro w _; simp [execOp, go_sem]) (by intro w _ x hx; simp [execOp, go_sem] at hx) ?_
      refine pu_act (a' := ⟨#[.chan (some c), .int .i64 (nx d s), .func (.func 41) #[] #[.pointer (some ⟨bC, 0, none⟩)], .func (.func 43) #[] #[], u4, u5, u6, u7, .int .i64 (tick), .func (.func 43) #[] #[], .int .i64 (tick), .int .i64 (s), .bool (decide (0 < s)), .int .i64 (tick), .int .i64 (IntKind.i64.wrap (tick + 1)), .func (.func 41) #[] #[.pointer (some ⟨bC, 0, none⟩)], .int .i64 (s), .int .i64 (nx d s), .chan (some c), .int .i64 (nx d s)], []⟩) rfl ?_
      refine pu_assign (by rfl) rfl (by simp [base, baseD]) rfl ?_
      refine pu_act (a' := ⟨#[.chan (some c), .int .i64 (nx d s), .func (.func 41) #[] #[.pointer (some ⟨bC, 0, none⟩)], .func (.func 43) #[] #[], u4, u5, u6, u7, .int .i64 (IntKind.i64.wrap (tick + 1)), .func (.func 43) #[] #[], .int .i64 (tick), .int .i64 (s), .bool (decide (0 < s)), .int .i64 (tick), .int .i64 (IntKind.i64.wrap (tick + 1)), .func (.func 41) #[] #[.pointer (some ⟨bC, 0, none⟩)], .int .i64 (s), .int .i64 (nx d s), .chan (some c), .int .i64 (nx d s)], []⟩) rfl ?_
      refine pu_nil ?_
      exact pu_inLoop hT
    · simp only [dl, if_neg hs]
      exact wg_nil (w_close hs he hse)
/-- What the worker reads. -/
structure KC (c e x3 x4 x5 x7 x8 bC : Nat) (L d : Int) (w : World) : Prop where
  c3 : w.cell? ⟨x3, 0, none⟩ = some (.int .i64 L)
  c4 : w.cell? ⟨x4, 0, none⟩ = some (.func (.func 41) #[] #[.pointer (some ⟨bC, 0, none⟩)])
  c5 : w.cell? ⟨x5, 0, none⟩ = some (.func (.func 43) #[] #[])
  c7 : w.cell? ⟨x7, 0, none⟩ = some (.chan (some c))
  c8 : w.cell? ⟨x8, 0, none⟩ = some (.chan (some e))
  cd : w.cell? ⟨bC, 1, none⟩ = some (.int .i64 d)

set_option maxHeartbeats 4000000 in
theorem w_child {x3 x4 x5 x7 x8 : Nat} {L : Int} (hKc : ∀ w, K w → KC c e x3 x4 x5 x7 x8 bC L d w) (hSt : ∀ p : Addr, p.block < B → Still (.cell p)) (hse : Still (.obj e)) (heB : e < B) (h3 : x3 < B) (h4 : x4 < B) (h5 : x5 < B) (h7 : x7 < B) (h8 : x8 < B) (hbC : bC < B)
    (n : Nat) (hn : L.toNat ≤ n) (hU : ∀ x, 0 < x → x ≤ L → Up x d ∧ nx d x < x) :
    WGives Try.prog K Still c e (.tuple #[]) B (dl d n L) (born Try.prog { target := .fn (.func 44) #[.pointer (some ⟨x8, 0, none⟩), .pointer (some ⟨x7, 0, none⟩), .pointer (some ⟨x3, 0, none⟩), .pointer (some ⟨x4, 0, none⟩), .pointer (some ⟨x5, 0, none⟩)], args := #[] }) := by
  refine wg_back (w_loop (ats := #[55]) (ty := 0) (q := #[false]) (t0 := .pointer (some ⟨x8, 0, none⟩)) (t1 := .pointer (some ⟨x7, 0, none⟩)) (t2 := .pointer (some ⟨x3, 0, none⟩)) (t3 := .pointer (some ⟨x4, 0, none⟩)) (t4 := .pointer (some ⟨x5, 0, none⟩)) (t5 := .chan (some e)) (t6 := .chan (some c)) (t7 := .int .i64 (L)) (t8 := .func (.func 41) #[] #[.pointer (some ⟨bC, 0, none⟩)]) (t9 := .func (.func 43) #[] #[]) (t10 := undef) (fun w hK => (hKc w hK).cd) (hSt _ hbC) hbC heB hse n L hn hU 0 undef undef undef undef undef undef undef undef undef undef undef undef undef undef undef) (fun T hT => ?_)
  refine pu_born Try.func44 (by rfl) rfl ?_
  rw [enter_atD _ Try.func44 rfl]
  refine pu_act (a' := ⟨#[.pointer (some ⟨x8, 0, none⟩), .pointer (some ⟨x7, 0, none⟩), .pointer (some ⟨x3, 0, none⟩), .pointer (some ⟨x4, 0, none⟩), .pointer (some ⟨x5, 0, none⟩), undef, undef, undef, undef, undef, undef], []⟩) (by simp only [Try.ntmps44, List.size_toArray, List.length_cons, List.length_nil, Nat.reduceAdd, Nat.reduceSub, Array.replicate_succ, Array.replicate_zero, List.push_toArray, List.append_toArray, List.nil_append, List.cons_append]) ?_
  refine pu_seq (pu_region ?_)
  refine pu_val (v := .chan (some e)) (by rfl) rfl (by simp [base, baseD]) (by intro w hK; have hc := (hKc w hK).c8; simp [execOp, go_sem, hc]) (by intro w hK x hx; have hc := (hKc w hK).c8; simp [execOp, go_sem, hc] at hx; subst hx; exact rd_cell (hSt _ h8) h8) ?_
  refine pu_act (a' := ⟨#[.pointer (some ⟨x8, 0, none⟩), .pointer (some ⟨x7, 0, none⟩), .pointer (some ⟨x3, 0, none⟩), .pointer (some ⟨x4, 0, none⟩), .pointer (some ⟨x5, 0, none⟩), .chan (some e), undef, undef, undef, undef, undef], []⟩) rfl ?_
  refine pu_defer (by rfl) rfl (by simp [baseD]) rfl rfl ?_
  refine pu_act (a' := ⟨#[.pointer (some ⟨x8, 0, none⟩), .pointer (some ⟨x7, 0, none⟩), .pointer (some ⟨x3, 0, none⟩), .pointer (some ⟨x4, 0, none⟩), .pointer (some ⟨x5, 0, none⟩), .chan (some e), undef, undef, undef, undef, undef], [dclose e #[55] 0 #[false]]⟩) rfl ?_
  refine pu_nil (pu_region ?_)
  refine pu_val (v := .chan (some c)) (by rfl) rfl (by simp [base, baseD]) (by intro w hK; have hc := (hKc w hK).c7; simp [execOp, go_sem, hc]) (by intro w hK x hx; have hc := (hKc w hK).c7; simp [execOp, go_sem, hc] at hx; subst hx; exact rd_cell (hSt _ h7) h7) ?_
  refine pu_act (a' := ⟨#[.pointer (some ⟨x8, 0, none⟩), .pointer (some ⟨x7, 0, none⟩), .pointer (some ⟨x3, 0, none⟩), .pointer (some ⟨x4, 0, none⟩), .pointer (some ⟨x5, 0, none⟩), .chan (some e), .chan (some c), undef, undef, undef, undef], [dclose e #[55] 0 #[false]]⟩) rfl ?_
  refine pu_val (v := .int .i64 (L)) (by rfl) rfl (by simp [base, baseD]) (by intro w hK; have hc := (hKc w hK).c3; simp [execOp, go_sem, hc]) (by intro w hK x hx; have hc := (hKc w hK).c3; simp [execOp, go_sem, hc] at hx; subst hx; exact rd_cell (hSt _ h3) h3) ?_
  refine pu_act (a' := ⟨#[.pointer (some ⟨x8, 0, none⟩), .pointer (some ⟨x7, 0, none⟩), .pointer (some ⟨x3, 0, none⟩), .pointer (some ⟨x4, 0, none⟩), .pointer (some ⟨x5, 0, none⟩), .chan (some e), .chan (some c), .int .i64 (L), undef, undef, undef], [dclose e #[55] 0 #[false]]⟩) rfl ?_
  refine pu_val (v := .func (.func 41) #[] #[.pointer (some ⟨bC, 0, none⟩)]) (by rfl) rfl (by simp [base, baseD]) (by intro w hK; have hc := (hKc w hK).c4; simp [execOp, go_sem, hc]) (by intro w hK x hx; have hc := (hKc w hK).c4; simp [execOp, go_sem, hc] at hx; subst hx; exact rd_cell (hSt _ h4) h4) ?_
  refine pu_act (a' := ⟨#[.pointer (some ⟨x8, 0, none⟩), .pointer (some ⟨x7, 0, none⟩), .pointer (some ⟨x3, 0, none⟩), .pointer (some ⟨x4, 0, none⟩), .pointer (some ⟨x5, 0, none⟩), .chan (some e), .chan (some c), .int .i64 (L), .func (.func 41) #[] #[.pointer (some ⟨bC, 0, none⟩)], undef, undef], [dclose e #[55] 0 #[false]]⟩) rfl ?_
  refine pu_val (v := .func (.func 43) #[] #[]) (by rfl) rfl (by simp [base, baseD]) (by intro w hK; have hc := (hKc w hK).c5; simp [execOp, go_sem, hc]) (by intro w hK x hx; have hc := (hKc w hK).c5; simp [execOp, go_sem, hc] at hx; subst hx; exact rd_cell (hSt _ h5) h5) ?_
  refine pu_act (a' := ⟨#[.pointer (some ⟨x8, 0, none⟩), .pointer (some ⟨x7, 0, none⟩), .pointer (some ⟨x3, 0, none⟩), .pointer (some ⟨x4, 0, none⟩), .pointer (some ⟨x5, 0, none⟩), .chan (some e), .chan (some c), .int .i64 (L), .func (.func 41) #[] #[.pointer (some ⟨bC, 0, none⟩)], .func (.func 43) #[] #[], undef], [dclose e #[55] 0 #[false]]⟩) rfl ?_
  refine pu_call (av := #[.chan (some c), .int .i64 (L), .func (.func 41) #[] #[.pointer (some ⟨bC, 0, none⟩)], .func (.func 43) #[] #[]]) (by rfl) rfl (by simp [baseD]) rfl rfl Try.func45 (by rfl) rfl (by simp [Act.eval]) ?_
  rw [enter_at _ Try.func45 rfl]
  refine pu_act (a' := ⟨#[.chan (some c), .int .i64 (L), .func (.func 41) #[] #[.pointer (some ⟨bC, 0, none⟩)], .func (.func 43) #[] #[], undef, undef, undef, undef, undef, undef, undef, undef, undef, undef, undef, undef, undef, undef, undef, undef], []⟩) (by simp only [Try.ntmps45, List.size_toArray, List.length_cons, List.length_nil, Nat.reduceAdd, Nat.reduceSub, Array.replicate_succ, Array.replicate_zero, List.push_toArray, List.append_toArray, List.nil_append, List.cons_append]) ?_
  refine pu_seq (pu_region ?_)
  refine pu_assign (by rfl) rfl (by simp [base, baseD]) rfl ?_
  refine pu_act (a' := ⟨#[.chan (some c), .int .i64 (L), .func (.func 41) #[] #[.pointer (some ⟨bC, 0, none⟩)], .func (.func 43) #[] #[], undef, undef, undef, undef, .int .i64 (0), undef, undef, undef, undef, undef, undef, undef, undef, undef, undef, undef], []⟩) rfl ?_
  refine pu_nil ?_
  exact pu_block (pu_loop hT)
end
end
end Go.Proofs.Ytnahlemchajfdaa.Meta
