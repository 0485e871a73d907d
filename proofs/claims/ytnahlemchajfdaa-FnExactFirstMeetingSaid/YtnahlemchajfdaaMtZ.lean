/- Rules for the run from place to place; the end of the ticks. -/
import Derived.Test.YtnahlemchajfdaaMtX
namespace Go.Proofs.Ytnahlemchajfdaa.Meta
open Go Go.Conc Go.Proofs

section
variable {P : Program} {Stop : Goroutine → World → Prop} {b : Frame} {a : Act} {k : List Item} {cs : List Frame} {w : World}
theorem gc_act {a' : Act} (ha : a = a') (h : GoesC P Stop (G (b.at a' k) cs) w) : GoesC P Stop (G (b.at a k) cs) w := ha ▸ h
/-- An operation that yields a value and leaves the world. -/
theorem gc_val {ops : Array Oper} {i : Nat} {rest : List Nat} {o : Oper} {v : Value} (hbk : b.kind = .normal) (ho : ops[i]? = some o) (hw : Region.wanted o (yielded ops a.tmps) = true) (hp : opOk (fun _ => false) o.op = true) (hn : NPW w)
    (hr : ∀ τ d, (execOp a.eval o).run P (wt w τ d) = .ok (.value v) (wt w τ d)) (h : GoesC P Stop (G (b.at (a.put o.dst v) (.inRegion ops rest :: k)) cs) w) : GoesC P Stop (G (b.at a (.inRegion ops (i :: rest) :: k)) cs) w :=
  gc_op hbk hp ho hw hn fun K hK τ d => by
    unfold Oper.wp
    rw [hr τ d]
    exact hK _ _ fun _ => h.wt τ d
/-- A go statement of a function's value without arguments. -/
theorem spawn_of {ops : Array Oper} {i : Nat} {rest : List Nat} {o : Oper} {x : Operand} {f : FuncId} {caps : Array Value} (ho : ops[i]? = some o) (hw : Region.wanted o (yielded ops a.tmps) = true) (hk : b.kind ≠ .early)
    (hop : o.op = .go { callee := .value x, args := #[], argTypes := #[] }) (hx : a.eval x = .func (.func f) #[] caps) (W : World) :
    stepG P true (G (b.at a (.inRegion ops (i :: rest) :: k)) cs) W = .spawn (G (b.at (a.put o.dst undef) (.inRegion ops rest :: k)) cs) (born P { target := .fn (.func f) caps, args := #[] }) W #[] := by
  have hr : (execOp a.eval o).run P W = .ok (.spawn { target := .fn (.func f) caps, args := #[] }) W := by
    unfold execOp
    simp [hop, resolve, Deferred.ofValue, hx]
  have he : (execOp a.eval o).events P W #[] = #[] := by
    unfold execOp
    simp [hop, resolve, Deferred.ofValue, hx]
  rw [stepG_spawn ho hw hk hr rfl, listed_nil he]
/-- An operation that makes something. -/
theorem gc_new {ops : Array Oper} {i : Nat} {rest : List Nat} {o : Oper} {v : Value} {w1 : World} (hbk : b.kind = .normal) (ho : ops[i]? = some o) (hw : Region.wanted o (yielded ops a.tmps) = true) (hp : opOk (fun _ => false) o.op = true) (hn : NPW w)
    (hr : ∀ τ d, (execOp a.eval o).run P (wt w τ d) = .ok (.value v) (wt w1 τ d)) (h : NPW w1 → GoesC P Stop (G (b.at (a.put o.dst v) (.inRegion ops rest :: k)) cs) w1) : GoesC P Stop (G (b.at a (.inRegion ops (i :: rest) :: k)) cs) w :=
  gc_op hbk hp ho hw hn fun K hK τ d => by
    unfold Oper.wp
    rw [hr τ d]
    exact hK _ _ fun hn' => (h (hn'.eq rfl)).wt τ d
theorem gc_move {ops : Array Oper} {i : Nat} {rest : List Nat} {o : Oper} {x : Operand} (hbk : b.kind = .normal) (ho : ops[i]? = some o) (hw : Region.wanted o (yielded ops a.tmps) = true) (hn : NPW w) (hop : o.op = .move x)
    (h : GoesC P Stop (G (b.at (a.put o.dst (a.eval x)) (.inRegion ops rest :: k)) cs) w) : GoesC P Stop (G (b.at a (.inRegion ops (i :: rest) :: k)) cs) w :=
  gc_val hbk ho hw (by rw [hop]; rfl) hn (fun τ d => by unfold execOp; simp [hop]) h
theorem gc_assign {ops : Array Oper} {i : Nat} {rest : List Nat} {o : Oper} {x : Operand} (hbk : b.kind = .normal) (ho : ops[i]? = some o) (hw : Region.wanted o (yielded ops a.tmps) = true) (hn : NPW w) (hop : o.op = .assign x)
    (h : GoesC P Stop (G (b.at (a.put o.dst (a.eval x)) (.inRegion ops rest :: k)) cs) w) : GoesC P Stop (G (b.at a (.inRegion ops (i :: rest) :: k)) cs) w :=
  gc_val hbk ho hw (by rw [hop]; rfl) hn (fun τ d => by unfold execOp; simp [hop]) h
end

section
variable {W0 W : World} {Stop : Goroutine → World → Prop} {B c e x7 x8 : Nat} {s : Value} {xs : List Value} {cf : Frame} {rest : List Frame} {y0 y1 y2 y3 y4 y5 y6 y10 y11 y12 y13 y14 y15 y16 y17 y18 y19 y20 y21 y22 y23 y24 y25 y26 y27 : Value}
/-- The end: the row is handed over. -/
theorem h_end (hJ : JH W0 B c e x7 x8 s xs W) (h : GoesC Try.prog Stop (G (cf.finish s) rest) W) :
    GoesC Try.prog Stop ((G ((base 40).at ⟨#[y0, y1, y2, y3, y4, y5, y6, .pointer (some ⟨x7, 0, none⟩), .pointer (some ⟨x8, 0, none⟩), s, y10, y11, y12, y13, y14, y15, .chan (some c), .chan (some e), y18, y19, y20, y21, y22, y23, y24, y25, y26, y27], []⟩ (.inRegion o40 [0, 1, 2, 3] :: k40)) (cf :: rest)).finishComm Try.prog #[rcase c (.int .i64 0), rcase e (.agg #[])] .select 1 (.agg #[]) false) W := by
  rw [finish_select, commRes1, o40_eq]
  refine gc_act (a' := ⟨#[y0, y1, y2, y3, y4, y5, y6, .pointer (some ⟨x7, 0, none⟩), .pointer (some ⟨x8, 0, none⟩), s, y10, y11, y12, y13, y14, y15, .chan (some c), .chan (some e), .tuple #[.int .i64 1, .bool false, .int .i64 0, .agg #[]], y19, y20, y21, y22, y23, y24, y25, y26, y27], []⟩) rfl ?_
  refine gc_val (v := .int .i64 (1)) rfl (by rfl) rfl (by rfl) hJ.np (by intro τ d; simp [execOp, go_sem]) ?_
  refine gc_act (a' := ⟨#[y0, y1, y2, y3, y4, y5, y6, .pointer (some ⟨x7, 0, none⟩), .pointer (some ⟨x8, 0, none⟩), s, y10, y11, y12, y13, y14, y15, .chan (some c), .chan (some e), .tuple #[.int .i64 1, .bool false, .int .i64 0, .agg #[]], .int .i64 (1), y20, y21, y22, y23, y24, y25, y26, y27], []⟩) rfl ?_
  refine gc_val (v := .bool false) rfl (by rfl) rfl (by rfl) hJ.np (by intro τ d; simp [execOp, go_sem]) ?_
  refine gc_act (a' := ⟨#[y0, y1, y2, y3, y4, y5, y6, .pointer (some ⟨x7, 0, none⟩), .pointer (some ⟨x8, 0, none⟩), s, y10, y11, y12, y13, y14, y15, .chan (some c), .chan (some e), .tuple #[.int .i64 1, .bool false, .int .i64 0, .agg #[]], .int .i64 (1), .bool false, y21, y22, y23, y24, y25, y26, y27], []⟩) rfl ?_
  refine gc_val (v := .bool true) rfl (by rfl) rfl (by rfl) hJ.np (by intro τ d; simp [execOp, go_sem]) ?_
  refine gc_act (a' := ⟨#[y0, y1, y2, y3, y4, y5, y6, .pointer (some ⟨x7, 0, none⟩), .pointer (some ⟨x8, 0, none⟩), s, y10, y11, y12, y13, y14, y15, .chan (some c), .chan (some e), .tuple #[.int .i64 1, .bool false, .int .i64 0, .agg #[]], .int .i64 (1), .bool false, .bool true, y22, y23, y24, y25, y26, y27], []⟩) rfl ?_
  refine gc_nil (gc_block (gc_cond (t := false) rfl (gc_cond (t := true) rfl (gc_seq (gc_region ?_)))))
  refine gc_move rfl (by rfl) rfl hJ.np rfl ?_
  refine gc_act (a' := ⟨#[y0, y1, y2, y3, y4, y5, y6, .pointer (some ⟨x7, 0, none⟩), .pointer (some ⟨x8, 0, none⟩), s, y10, y11, y12, y13, y14, y15, .chan (some c), .chan (some e), .tuple #[.int .i64 1, .bool false, .int .i64 0, .agg #[]], .int .i64 (1), .bool false, .bool true, y22, y23, y24, y25, y26, s], []⟩) rfl ?_
  refine gc_assign rfl (by rfl) rfl hJ.np rfl ?_
  refine gc_act (a' := ⟨#[y0, y1, y2, y3, y4, y5, s, .pointer (some ⟨x7, 0, none⟩), .pointer (some ⟨x8, 0, none⟩), s, y10, y11, y12, y13, y14, y15, .chan (some c), .chan (some e), .tuple #[.int .i64 1, .bool false, .int .i64 0, .agg #[]], .int .i64 (1), .bool false, .bool true, y22, y23, y24, y25, y26, s], []⟩) rfl ?_
  refine gc_nil (gc_ret fun todo => ?_)
  exact gc_leave rfl Try.func40 rfl (fun τ d => results_tmp (t := 6) rfl _ _ _) h
end
end Go.Proofs.Ytnahlemchajfdaa.Meta
