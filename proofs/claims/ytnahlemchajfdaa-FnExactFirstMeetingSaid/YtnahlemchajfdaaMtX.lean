/- The holder of the ticks: its rounds. -/
import Derived.Test.YtnahlemchajfdaaMt4
import Derived.Test.YtnahlemchajfdaaMtW
namespace Go.Proofs.Ytnahlemchajfdaa.Meta
open Go Go.Conc Go.Proofs

/-- What holds between the holder's steps: its two variables, the row that it grows, all else as it was. -/
structure JH (W0 : World) (B c e x7 x8 : Nat) (s : Value) (xs : List Value) (W : World) : Prop where
  np : NPW W
  lo : B ≤ W.heap.size
  c7 : W.cell? ⟨x7, 0, none⟩ = some (.chan (some c))
  c8 : W.cell? ⟨x8, 0, none⟩ = some (.chan (some e))
  own : W.ownsRow B 3 1 s xs.length xs
  outer : ∀ k, k < W0.heap.size → W.heap[k]? = W0.heap[k]?

section
variable {W0 W : World} {B c e x7 x8 : Nat} {s : Value} {xs : List Value}

theorem cell_not_chan {W : World} {p : Addr} {v : Value} {cap : Nat} {buf : Array Value} {cl : Bool} {q r : Nat} {tm : Bool} (h : W.cell? p = some v) {z : Nat} (hz : W.heap[z]? = some (.chan cap buf cl q r tm)) : p.block ≠ z := by
  rintro rfl
  simp [World.cell?, hz] at h

theorem setChan_block {W : World} {z k : Nat} {cap : Nat} {buf : Array Value} {cl : Bool} {q r : Nat} {tm : Bool} (h : k ≠ z) : (W.setChan z cap buf cl q r tm).heap[k]? = W.heap[k]? := by
  simp only [World.setChan]
  exact Array.getElem?_setIfInBounds_ne (Ne.symm h)

theorem JH.setChan (hJ : JH W0 B c e x7 x8 s xs W) {z : Nat} {cap cap' : Nat} {buf buf' : Array Value} {cl cl' : Bool} {q r q' r' : Nat} {tm tm' : Bool} (hz : W.heap[z]? = some (.chan cap buf cl q r tm)) (h0 : W0.heap.size ≤ z) :
    JH W0 B c e x7 x8 s xs (W.setChan z cap' buf' cl' q' r' tm') where
  np := np_setChan hJ.np
  lo := by
    have : (W.setChan z cap' buf' cl' q' r' tm').heap.size = W.heap.size := by simp [World.setChan]
    rw [this]; exact hJ.lo
  c7 := (World.cell?_of_block (setChan_block (cell_not_chan hJ.c7 hz))).trans hJ.c7
  c8 := (World.cell?_of_block (setChan_block (cell_not_chan hJ.c8 hz))).trans hJ.c8
  own := by
    refine hJ.own.kept (row := some z) ⟨rfl, rfl, rfl, by simp [World.setChan], fun k _ hk => setChan_block fun e => hk (by rw [e])⟩ ?_
    rcases hJ.own.2 with ⟨rfl, _⟩ | ⟨g, cap, cur, rfl, _, hg, _⟩
    · exact .inl rfl
    · refine .inr fun e => ?_
      have e' : some g = some z := e
      cases e'
      rw [hz] at hg; cases hg
  outer := fun k hk => (setChan_block (by omega)).trans (hJ.outer k hk)
theorem JH.at (hJ : JH W0 B c e x7 x8 s xs W) (d : Nat) : JH W0 B c e x7 x8 s xs (W.at d) :=
  ⟨hJ.np.eq rfl, hJ.lo, hJ.c7, hJ.c8, hJ.own, hJ.outer⟩
theorem JH.wt (hJ : JH W0 B c e x7 x8 s xs W) (τ : Nat → Question → Nat) (d : Nat) : JH W0 B c e x7 x8 s xs (Go.Proofs.Ytnahlemchajfdaa.Meta.wt W τ d) :=
  ⟨hJ.np.eq rfl, hJ.lo, hJ.c7, hJ.c8, hJ.own, hJ.outer⟩
theorem JH.rely (h0 : W0.heap.size ≤ e) (hJ : JH W0 B c e x7 x8 s xs W) {W1 : World} (k : RE e W W1) : JH W0 B c e x7 x8 s xs W1 := by
  obtain ⟨d, rfl | ⟨q, r, tm, hs, rfl⟩⟩ := k
  · exact hJ.at d
  · exact (hJ.at d).setChan hs h0
theorem JH.grown (hJ : JH W0 B c e x7 x8 s xs W) {W' : World} {s' : Value} {xs' : List Value} (hB : W0.heap.size ≤ B) (h7 : x7 < B) (h8 : x8 < B) (hn : NPW W') (hsz : W.heap.size ≤ W'.heap.size) (hb : ∀ k, k < B → W'.heap[k]? = W.heap[k]?) (ho : W'.ownsRow B 3 1 s' xs'.length xs') :
    JH W0 B c e x7 x8 s' xs' W' :=
  ⟨hn, Nat.le_trans hJ.lo hsz, (World.cell?_of_block (hb x7 h7)).trans hJ.c7, (World.cell?_of_block (hb x8 h8)).trans hJ.c8, ho, fun k hk => (hb k (by omega)).trans (hJ.outer k hk)⟩
end

theorem info3 : ∃ i, Try.prog.info? 3 = some i ∧ i.zero = some (.int .i64 0) ∧ i.size = 1 ∧ i.bytes = 8 := by
  have h : (Try.prog.info? 3).map (fun i => (i.zero, i.size, i.bytes)) = some (some (.int .i64 0), 1, 8) := by kernel_rfl
  obtain ⟨i, hi, h⟩ := Option.map_eq_some_iff.1 h
  simp only [Prod.mk.injEq] at h
  exact ⟨i, hi, h.1, h.2.1, h.2.2⟩

/-- The loop of behindTicks. -/
noncomputable def c40 : Code := match Try.f40.body with
  | some (.seq _ (.seq _ (.seq _ (.seq _ (.block _ (.loop c)))))) => c
  | _ => .skip
/-- What follows the select. -/
noncomputable def k40 : List Item := match c40 with
  | .block _ (.seq _ (.seq _ b)) => [.code b, .inBlock 1, .inLoop c40, .inBlock 0]
  | _ => []
noncomputable def o40 : Array Oper := match c40 with
  | .block _ (.seq _ (.seq (.region _ ops _) _)) => ops
  | _ => #[]

theorem o40_eq : o40 = #[{ dst := some 18, op := Op.select #[{ chan := Operand.tmp 16, send := none, elem := 3 }, { chan := Operand.tmp 17, send := none, elem := 57 }] true, type := 0, pos := "l9_clock.go:297", after := #[], guard := none },
  { dst := some 19, op := Op.extract (Operand.tmp 18) 0, type := 3, pos := "l9_clock.go:297", after := #[{ on := 0, ground := Ground.data }], guard := none },
  { dst := some 20, op := Op.binOp BinOp.eql 3 (Operand.tmp 19) (Operand.const (Value.int IntKind.i64 0)) 3, type := 4, pos := "l9_clock.go:297", after := #[{ on := 1, ground := Ground.data }], guard := none },
  { dst := some 21, op := Op.binOp BinOp.eql 3 (Operand.tmp 19) (Operand.const (Value.int IntKind.i64 1)) 3, type := 4, pos := "l9_clock.go:297", after := #[{ on := 1, ground := Ground.data }], guard := none }] := rfl

section
variable {W0 W : World} {K : World → Prop} {Still : Loc → Prop} {Stop : Goroutine → World → Prop} {B c e x7 x8 : Nat} {s v : Value} {xs : List Value} {cs : List Frame}
variable {y0 y1 y2 y3 y4 y5 y6 y10 y11 y12 y13 y14 y15 y16 y17 y18 y19 y20 y21 y22 y23 y24 y25 y26 y27 : Value}
theorem h_seg (he0 : W0.heap.size ≤ e) (hJ : JH W0 B c e x7 x8 s xs W) (hstop : ∀ w1, RE e W w1 → Stop (G ((base 40).at ⟨#[y0, y1, y2, y3, y4, y5, y6, .pointer (some ⟨x7, 0, none⟩), .pointer (some ⟨x8, 0, none⟩), s, y10, y11, y12, y13, y14, y15, .chan (some c), .chan (some e), y18, y19, y20, y21, y22, y23, y24, y25, y26, y27], []⟩ (.inRegion o40 [0, 1, 2, 3] :: k40)) cs) w1) :
    GoesR Try.prog true (RE e) (DH K Still c e) Stop (G ((base 40).at ⟨#[y0, y1, y2, y3, y4, y5, y6, .pointer (some ⟨x7, 0, none⟩), .pointer (some ⟨x8, 0, none⟩), s, y10, y11, y12, y13, y14, y15, y16, y17, y18, y19, y20, y21, y22, y23, y24, y25, y26, y27], []⟩ [.code c40, .inLoop c40, .inBlock 0]) cs) W := by
  refine gr_block (gr_seq (gr_seq (gr_region ?_)))
  refine gr_val (v := .chan (some c)) (by simp [base]) (by rfl) rfl (by rfl) hJ.np (by intro w1 h1; have h7 := (hJ.rely he0 h1).c7; simp [execOp, go_sem, h7]) (by intro w1 h1 x hx; have h7 := (hJ.rely he0 h1).c7; simp [execOp, go_sem, h7] at hx; subst hx; exact ⟨rfl, fun m h => by cases h⟩) ?_
  refine gr_act (a' := ⟨#[y0, y1, y2, y3, y4, y5, y6, .pointer (some ⟨x7, 0, none⟩), .pointer (some ⟨x8, 0, none⟩), s, y10, y11, y12, y13, y14, y15, .chan (some c), y17, y18, y19, y20, y21, y22, y23, y24, y25, y26, y27], []⟩) rfl ?_
  refine gr_nil (gr_region ?_)
  refine gr_val (v := .chan (some e)) (by simp [base]) (by rfl) rfl (by rfl) hJ.np (by intro w1 h1; have h7 := (hJ.rely he0 h1).c8; simp [execOp, go_sem, h7]) (by intro w1 h1 x hx; have h7 := (hJ.rely he0 h1).c8; simp [execOp, go_sem, h7] at hx; subst hx; exact ⟨rfl, fun m h => by cases h⟩) ?_
  refine gr_act (a' := ⟨#[y0, y1, y2, y3, y4, y5, y6, .pointer (some ⟨x7, 0, none⟩), .pointer (some ⟨x8, 0, none⟩), s, y10, y11, y12, y13, y14, y15, .chan (some c), .chan (some e), y18, y19, y20, y21, y22, y23, y24, y25, y26, y27], []⟩) rfl ?_
  refine gr_nil (gr_seq (gr_region ?_))
  exact .stop fun w1 h1 => hstop w1 h1

theorem h_sel : AtSelA Try.prog c e (.int .i64 0) (.agg #[]) (G ((base 40).at ⟨#[y0, y1, y2, y3, y4, y5, y6, .pointer (some ⟨x7, 0, none⟩), .pointer (some ⟨x8, 0, none⟩), s, y10, y11, y12, y13, y14, y15, .chan (some c), .chan (some e), y18, y19, y20, y21, y22, y23, y24, y25, y26, y27], []⟩ (.inRegion o40 [0, 1, 2, 3] :: k40)) cs) :=
  atSelA_of (by simp [base]) (by rfl) rfl rfl rfl rfl (by kernel_rfl) (by kernel_rfl)
theorem h_take (he0 : W0.heap.size ≤ e) {z : Int} (hB : W0.heap.size ≤ B) (h7 : x7 < B) (h8 : x8 < B) (hJ : JH W0 B c e x7 x8 s xs W) (hKB : ∀ w w', (∀ k, k < B → w'.heap[k]? = w.heap[k]?) → K w → K w') (hlen : xs.length < 1000000) (hcB : c < B) (heB : e < B) (hSB : ∀ p, Still (.cell p) → p.block < B)
    (hnext : ∀ (s' : Value) (W' : World), JH W0 B c e x7 x8 s' (xs ++ [.int .i64 z]) W' → ∀ y0 y1 y2 y3 y4 y5 y6 y10 y11 y12 y13 y14 y15 y16 y17 y18 y19 y20 y21 y22 y23 y24 y25 y26 y27 : Value, GoesR Try.prog true (RE e) (DH K Still c e) Stop (G ((base 40).at ⟨#[y0, y1, y2, y3, y4, y5, y6, .pointer (some ⟨x7, 0, none⟩), .pointer (some ⟨x8, 0, none⟩), s', y10, y11, y12, y13, y14, y15, y16, y17, y18, y19, y20, y21, y22, y23, y24, y25, y26, y27], []⟩ [.code c40, .inLoop c40, .inBlock 0]) cs) W') :
    GoesR Try.prog true (RE e) (DH K Still c e) Stop ((G ((base 40).at ⟨#[y0, y1, y2, y3, y4, y5, y6, .pointer (some ⟨x7, 0, none⟩), .pointer (some ⟨x8, 0, none⟩), s, y10, y11, y12, y13, y14, y15, .chan (some c), .chan (some e), y18, y19, y20, y21, y22, y23, y24, y25, y26, y27], []⟩ (.inRegion o40 [0, 1, 2, 3] :: k40)) cs).finishComm Try.prog #[rcase c (.int .i64 0), rcase e (.agg #[])] .select 0 (.int .i64 z) true) W := by
  rw [finish_select, commRes0, o40_eq]
  refine gr_act (a' := ⟨#[y0, y1, y2, y3, y4, y5, y6, .pointer (some ⟨x7, 0, none⟩), .pointer (some ⟨x8, 0, none⟩), s, y10, y11, y12, y13, y14, y15, .chan (some c), .chan (some e), .tuple #[.int .i64 0, .bool true, .int .i64 z, .agg #[]], y19, y20, y21, y22, y23, y24, y25, y26, y27], []⟩) rfl ?_
  refine gr_val (v := .int .i64 (0)) (by simp [base]) (by rfl) rfl (by rfl) hJ.np (by intro w1 h1; simp [execOp, go_sem]) (by intro w1 h1 x hx; simp [execOp, go_sem] at hx) ?_
  refine gr_act (a' := ⟨#[y0, y1, y2, y3, y4, y5, y6, .pointer (some ⟨x7, 0, none⟩), .pointer (some ⟨x8, 0, none⟩), s, y10, y11, y12, y13, y14, y15, .chan (some c), .chan (some e), .tuple #[.int .i64 0, .bool true, .int .i64 z, .agg #[]], .int .i64 (0), y20, y21, y22, y23, y24, y25, y26, y27], []⟩) rfl ?_
  refine gr_val (v := .bool true) (by simp [base]) (by rfl) rfl (by rfl) hJ.np (by intro w1 h1; simp [execOp, go_sem]) (by intro w1 h1 x hx; simp [execOp, go_sem] at hx) ?_
  refine gr_act (a' := ⟨#[y0, y1, y2, y3, y4, y5, y6, .pointer (some ⟨x7, 0, none⟩), .pointer (some ⟨x8, 0, none⟩), s, y10, y11, y12, y13, y14, y15, .chan (some c), .chan (some e), .tuple #[.int .i64 0, .bool true, .int .i64 z, .agg #[]], .int .i64 (0), .bool true, y21, y22, y23, y24, y25, y26, y27], []⟩) rfl ?_
  refine gr_val (v := .bool false) (by simp [base]) (by rfl) rfl (by rfl) hJ.np (by intro w1 h1; simp [execOp, go_sem]) (by intro w1 h1 x hx; simp [execOp, go_sem] at hx) ?_
  refine gr_act (a' := ⟨#[y0, y1, y2, y3, y4, y5, y6, .pointer (some ⟨x7, 0, none⟩), .pointer (some ⟨x8, 0, none⟩), s, y10, y11, y12, y13, y14, y15, .chan (some c), .chan (some e), .tuple #[.int .i64 0, .bool true, .int .i64 z, .agg #[]], .int .i64 (0), .bool true, .bool false, y22, y23, y24, y25, y26, y27], []⟩) rfl ?_
  refine gr_nil (gr_block (gr_cond (t := true) rfl (gr_seq (gr_region ?_))))
  refine gr_val (v := .int .i64 z) (by simp [base]) (by rfl) rfl (by rfl) hJ.np (by intro w1 h1; simp [execOp, go_sem]) (by intro w1 h1 x hx; simp [execOp, go_sem] at hx) ?_
  refine gr_act (a' := ⟨#[y0, y1, y2, y3, y4, y5, y6, .pointer (some ⟨x7, 0, none⟩), .pointer (some ⟨x8, 0, none⟩), s, y10, y11, y12, y13, y14, y15, .chan (some c), .chan (some e), .tuple #[.int .i64 0, .bool true, .int .i64 z, .agg #[]], .int .i64 (0), .bool true, .bool false, .int .i64 z, y23, y24, y25, y26, y27], []⟩) rfl ?_
  refine gr_assign (by simp [base]) (by rfl) rfl hJ.np rfl ?_
  refine gr_act (a' := ⟨#[y0, y1, y2, y3, y4, y5, y6, .pointer (some ⟨x7, 0, none⟩), .pointer (some ⟨x8, 0, none⟩), s, .int .i64 z, y11, y12, y13, y14, y15, .chan (some c), .chan (some e), .tuple #[.int .i64 0, .bool true, .int .i64 z, .agg #[]], .int .i64 (0), .bool true, .bool false, .int .i64 z, y23, y24, y25, y26, y27], []⟩) rfl ?_
  refine gr_nil (gr_region ?_)
  refine gr_move (by simp [base]) (by rfl) rfl hJ.np rfl ?_
  refine gr_act (a' := ⟨#[y0, y1, y2, y3, y4, y5, y6, .pointer (some ⟨x7, 0, none⟩), .pointer (some ⟨x8, 0, none⟩), s, .int .i64 z, y11, y12, y13, y14, y15, .chan (some c), .chan (some e), .tuple #[.int .i64 0, .bool true, .int .i64 z, .agg #[]], .int .i64 (0), .bool true, .bool false, .int .i64 z, s, y24, y25, y26, y27], []⟩) rfl ?_
  refine gr_move (by simp [base]) (by rfl) rfl hJ.np rfl ?_
  refine gr_act (a' := ⟨#[y0, y1, y2, y3, y4, y5, y6, .pointer (some ⟨x7, 0, none⟩), .pointer (some ⟨x8, 0, none⟩), s, .int .i64 z, y11, y12, y13, y14, y15, .chan (some c), .chan (some e), .tuple #[.int .i64 0, .bool true, .int .i64 z, .agg #[]], .int .i64 (0), .bool true, .bool false, .int .i64 z, s, .int .i64 z, y25, y26, y27], []⟩) rfl ?_
  refine gr_op (by simp [base]) (by rfl) rfl (by rfl) hJ.np fun w1 h1 hn1 => ⟨.slice (some ⟨w1.heap.size, 0, none⟩) 1 1, w1.alloc (.cells #[.int .i64 z] 3), by simp [execOp, go_sem, Act.eval], ?_, ?_, ?_, ?_, fun hn2 => ?_⟩
  · intro x hx; simp [execOp, go_sem, Act.eval] at hx
  · exact hKB w1 _ fun k hk => by have := (hJ.rely he0 h1).lo; exact alloc_old (by omega)
  · have := (hJ.rely he0 h1).lo; exact alloc_old (by omega)
  · have := (hJ.rely he0 h1).lo; exact alloc_old (by omega)
  have hJ1 := hJ.rely he0 h1
  have hJ2 : JH W0 B c e x7 x8 s xs (w1.alloc (.cells #[.int .i64 z] 3)) := hJ1.grown hB h7 h8 hn2 (by simp) (fun k hk => by have := hJ1.lo; exact alloc_old (by omega)) (hJ1.own.kept (World.grownBy_alloc w1 _ none) (by cases hv : s.ownBlock <;> simp))
  have hcell : (w1.alloc (.cells #[.int .i64 z] 3)).cell? ⟨w1.heap.size, 0, none⟩ = some (.int .i64 z) := by simp
  generalize w1.alloc (.cells #[.int .i64 z] 3) = W2 at hJ2 hcell ⊢
  generalize w1.heap.size = N at hcell ⊢
  clear hJ1 hn2 hn1 h1 hJ
  refine gr_act (a' := ⟨#[y0, y1, y2, y3, y4, y5, y6, .pointer (some ⟨x7, 0, none⟩), .pointer (some ⟨x8, 0, none⟩), s, .int .i64 z, y11, y12, y13, y14, y15, .chan (some c), .chan (some e), .tuple #[.int .i64 0, .bool true, .int .i64 z, .agg #[]], .int .i64 (0), .bool true, .bool false, .int .i64 z, s, .int .i64 z, .slice (some ⟨N, 0, none⟩) 1 1, y26, y27], []⟩) rfl ?_
  refine gr_op (by simp [base]) (by rfl) rfl (by rfl) hJ2.np fun w3 h3 hn3 => ?_
  have hJ3 := hJ2.rely he0 h3
  have hc3 := cell_rely hcell h3
  have hnews : ∀ (j : Nat) (u : Value), [Value.int .i64 z][j]? = some u → w3.cell? ((⟨N, 0, none⟩ : Addr).add j) = some u := by
    intro j u hj
    match j, hj with
    | 0, hj => cases hj; exact hc3
    | n + 1, hj => simp at hj
  obtain ⟨i3, hi3, hz3, hs3, hy3⟩ := info3
  obtain ⟨v4, w4, hr4, ho4, hg4, _⟩ := run_append_own (P := Try.prog) w3 B 30 30 3 i3 _ 1 8 Try.underlying30 hi3 hz3 hs3 hy3 (by rfl) (by decide) s xs.length xs hJ3.own ⟨N, 0, none⟩ 1 1 [.int .i64 z] (by simp) hnews (by simp [Value.oneCell']) (by unfold maxLen; omega) (by omega) hJ3.lo
  have hown : ∀ k, k < B → some k ≠ s.ownBlock := by
    intro k hk e
    rcases hJ3.own.2 with ⟨rfl, _⟩ | ⟨g, cap, cur, rfl, hbg, _⟩
    · cases e
    · cases e; exact absurd hk (Nat.not_lt.2 hbg)
  have hsame : ∀ k, k < B → w4.heap[k]? = w3.heap[k]? := fun k hk => hg4.block k (Nat.lt_of_lt_of_le hk hJ3.lo) (hown k hk)
  refine ⟨v4, w4, run_append_op (.tmp 23) (.tmp 25) 30 rfl rfl rfl hr4, ?_, hKB w3 w4 hsame, hsame c hcB, hsame e heB, fun hn4 => ?_⟩
  · intro x hx y hy hst
    rw [events_append_op (P := Try.prog) (.tmp 23) (.tmp 25) 30 rfl rfl rfl] at hx
    rcases events_append_where (P := Try.prog) w3 B 30 30 3 i3 _ 1 8 Try.underlying30 hi3 hz3 hs3 hy3 s xs.length xs hJ3.own ⟨N, 0, none⟩ 1 1 [.int .i64 z] (by simp) hnews (by simp [Value.oneCell']) (by unfold maxLen; omega) (by omega) x hx with ⟨ad, hl, hw | hw⟩ | ⟨m, rfl, hm⟩
    · obtain ⟨loc, wr, sy⟩ := x
      dsimp only at hl hw
      subst hl
      obtain ⟨rfl, _⟩ := hw
      exact touch_read ⟨rfl, fun m h => by cases h⟩ hy
    · exfalso
      obtain ⟨loc, wr, sy⟩ := x
      dsimp only at hl
      subst hl
      have : some (⟨.cell ad, wr, if sy then .atomic else .plain⟩ : Touch) = some y := by cases wr <;> cases sy <;> exact hy
      cases this
      exact hown _ (hSB ad hst) hw
    · rw [neutral_touch hm] at hy; cases hy
  have hJ4 : JH W0 B c e x7 x8 v4 (xs ++ [.int .i64 z]) w4 := hJ3.grown hB h7 h8 hn4 hg4.size hsame (by simpa using ho4)
  refine gr_act (a' := ⟨#[y0, y1, y2, y3, y4, y5, y6, .pointer (some ⟨x7, 0, none⟩), .pointer (some ⟨x8, 0, none⟩), s, .int .i64 z, y11, y12, y13, y14, y15, .chan (some c), .chan (some e), .tuple #[.int .i64 0, .bool true, .int .i64 z, .agg #[]], .int .i64 (0), .bool true, .bool false, .int .i64 z, s, .int .i64 z, .slice (some ⟨N, 0, none⟩) 1 1, v4, y27], []⟩) rfl ?_
  refine gr_assign (by simp [base]) (by rfl) rfl hJ4.np rfl ?_
  refine gr_act (a' := ⟨#[y0, y1, y2, y3, y4, y5, y6, .pointer (some ⟨x7, 0, none⟩), .pointer (some ⟨x8, 0, none⟩), v4, .int .i64 z, y11, y12, y13, y14, y15, .chan (some c), .chan (some e), .tuple #[.int .i64 0, .bool true, .int .i64 z, .agg #[]], .int .i64 (0), .bool true, .bool false, .int .i64 z, s, .int .i64 z, .slice (some ⟨N, 0, none⟩) 1 1, v4, y27], []⟩) rfl ?_
  exact gr_nil (gr_inBlock (gr_inBlock (gr_inLoop (hnext v4 w4 hJ4 _ _ _ _ _ _ _ _ _ _ _ _ _ _ _ _ _ _ _ _ _ _ _ _ _))))

theorem ht_bind {vs : List Value} {g : Goroutine} (h : GoesR Try.prog true (RE e) (DH K Still c e) (fun g' w' => HTakes Try.prog K Still c e (.int .i64 0) (.agg #[]) Stop vs g' w') g W) : HTakes Try.prog K Still c e (.int .i64 0) (.agg #[]) Stop vs g W := by
  cases vs with
  | nil => exact gr_bind h
  | cons v vs => exact gr_bind h

theorem h_loop (hc0 : W0.heap.size ≤ c) (he0 : W0.heap.size ≤ e) (hB : W0.heap.size ≤ B) (h7 : x7 < B) (h8 : x8 < B) (hcB : c < B) (heB : e < B) (hSB : ∀ p, Still (.cell p) → p.block < B)
    (hKB : ∀ w w', (∀ k, k < B → w'.heap[k]? = w.heap[k]?) → K w → K w') :
    ∀ (zs : List Int) (xs : List Value) (s : Value) (W : World) (y0 y1 y2 y3 y4 y5 y6 y10 y11 y12 y13 y14 y15 y16 y17 y18 y19 y20 y21 y22 y23 y24 y25 y26 y27 : Value), JH W0 B c e x7 x8 s xs W → xs.length + zs.length < 1000000 →
      (∀ (s' : Value) (W' : World), JH W0 B c e x7 x8 s' (xs ++ zs.map (.int .i64)) W' → ∀ y0 y1 y2 y3 y4 y5 y6 y10 y11 y12 y13 y14 y15 y18 y19 y20 y21 y22 y23 y24 y25 y26 y27 : Value, GoesC Try.prog Stop ((G ((base 40).at ⟨#[y0, y1, y2, y3, y4, y5, y6, .pointer (some ⟨x7, 0, none⟩), .pointer (some ⟨x8, 0, none⟩), s', y10, y11, y12, y13, y14, y15, .chan (some c), .chan (some e), y18, y19, y20, y21, y22, y23, y24, y25, y26, y27], []⟩ (.inRegion o40 [0, 1, 2, 3] :: k40)) cs).finishComm Try.prog #[rcase c (.int .i64 0), rcase e (.agg #[])] .select 1 (.agg #[]) false) W') →
      HTakes Try.prog K Still c e (.int .i64 0) (.agg #[]) Stop (zs.map (.int .i64)) (G ((base 40).at ⟨#[y0, y1, y2, y3, y4, y5, y6, .pointer (some ⟨x7, 0, none⟩), .pointer (some ⟨x8, 0, none⟩), s, y10, y11, y12, y13, y14, y15, y16, y17, y18, y19, y20, y21, y22, y23, y24, y25, y26, y27], []⟩ [.code c40, .inLoop c40, .inBlock 0]) cs) W := by
  intro zs
  induction zs with
  | nil =>
    intro xs s W y0 y1 y2 y3 y4 y5 y6 y10 y11 y12 y13 y14 y15 y16 y17 y18 y19 y20 y21 y22 y23 y24 y25 y26 y27 hJ hlen hfin
    exact h_seg he0 hJ fun w1 h1 => ⟨h_sel, hfin _ _ (by simpa using hJ.rely he0 h1) _ _ _ _ _ _ _ _ _ _ _ _ _ _ _ _ _ _ _ _ _ _ _⟩
  | cons z zs ih =>
    intro xs s W y0 y1 y2 y3 y4 y5 y6 y10 y11 y12 y13 y14 y15 y16 y17 y18 y19 y20 y21 y22 y23 y24 y25 y26 y27 hJ hlen hfin
    refine h_seg he0 hJ fun w1 h1 => ⟨h_sel, fun d q r tm hc => ?_⟩
    have hJ1 := ((hJ.rely he0 h1).at d).setChan (z := c) (cap' := 0) (buf' := #[]) (cl' := false) (q' := q + 1) (r' := r + 1) (tm' := tm) hc hc0
    simp only [List.length_cons] at hlen
    refine ht_bind (h_take he0 hB h7 h8 hJ1 hKB (by omega) hcB heB hSB fun s' W' hJ' y0 y1 y2 y3 y4 y5 y6 y10 y11 y12 y13 y14 y15 y16 y17 y18 y19 y20 y21 y22 y23 y24 y25 y26 y27 => .stop fun w2 h2 => ?_)
    refine ih (xs ++ [.int .i64 z]) s' w2 y0 y1 y2 y3 y4 y5 y6 y10 y11 y12 y13 y14 y15 y16 y17 y18 y19 y20 y21 y22 y23 y24 y25 y26 y27 (hJ'.rely he0 h2) (by simp; omega) fun s'' W'' hJ'' => ?_
    exact hfin s'' W'' (by simpa using hJ'')
end
end Go.Proofs.Ytnahlemchajfdaa.Meta
