/- The channels are made. -/
import Derived.Test.YtnahlemchajfdaaMtX
import Derived.WalkKit
import Derived.WalkSpells
import Derived.WalkLawsBesides
import Derived.BigQuiet
import Derived.Conc.LoneCalls
namespace Go.Proofs.Ytnahlemchajfdaa.Meta
open Go Go.Conc Go.Proofs Go.RowKit

theorem mkchan54 (w : World) : (Instr.makeChan 54 (.int .i64 0)).run Try.prog w = .ok (.chan (some w.heap.size)) (w.alloc (.chan 0 #[] false 0 0 false)) := by
  have h : (Try.prog.info? 3).map (fun i => i.bytes) = some 8 := by kernel_rfl
  obtain ⟨i, hi, hb⟩ := Option.map_eq_some_iff.1 h
  simpa using run_makeChan (P := Try.prog) (w := w) Try.underlying54 hi .i64 0 (by omega) (by rw [hb]; omega)
theorem mkchan55 (w : World) : (Instr.makeChan 55 (.int .i64 0)).run Try.prog w = .ok (.chan (some w.heap.size)) (w.alloc (.chan 0 #[] false 0 0 false)) := by
  have h : (Try.prog.info? 57).map (fun i => i.bytes) = some 0 := by kernel_rfl
  obtain ⟨i, hi, hb⟩ := Option.map_eq_some_iff.1 h
  simpa using run_makeChan (P := Try.prog) (w := w) Try.underlying55 hi .i64 0 (by omega) (by rw [hb]; omega)

/-- What the two variables and channels are, wherever they lie. -/
structure Made (w W : World) (c e x7 x8 : Nat) : Prop where
  sz : w.heap.size ≤ W.heap.size
  old : ∀ k, k < w.heap.size → W.heap[k]? = w.heap[k]?
  hc : W.heap[c]? = some (.chan 0 #[] false 0 0 false)
  he : W.heap[e]? = some (.chan 0 #[] false 0 0 false)
  h7 : W.cell? ⟨x7, 0, none⟩ = some (.chan (some c))
  h8 : W.cell? ⟨x8, 0, none⟩ = some (.chan (some e))
  c0 : w.heap.size ≤ c
  e0 : w.heap.size ≤ e
  ce : e ≠ c

structure Four (w W : World) (a b c d : Obj) : Prop where
  h0 : W.heap[w.heap.size]? = some a
  h1 : W.heap[w.heap.size + 1]? = some b
  h2 : W.heap[w.heap.size + 1 + 1]? = some c
  h3 : W.heap[w.heap.size + 1 + 1 + 1]? = some d
  old : ∀ k, k < w.heap.size → W.heap[k]? = w.heap[k]?
  sz : w.heap.size ≤ W.heap.size
theorem alloc_new {w : World} {o : Obj} {B : Nat} (h : w.heap.size = B) : (w.alloc o).heap[B]? = some o := by
  subst h
  show (w.heap.push o)[w.heap.size]? = _
  simp
theorem four (w : World) (a b c d : Obj) : Four w ((((w.alloc a).alloc b).alloc c).alloc d).drew a b c d := by
  refine ⟨?_, ?_, ?_, ?_, fun k hk => ?_, ?_⟩
  · exact (alloc_old (by simp <;> omega)).trans ((alloc_old (by simp <;> omega)).trans ((alloc_old (by simp <;> omega)).trans (alloc_new rfl)))
  · exact (alloc_old (by simp <;> omega)).trans ((alloc_old (by simp <;> omega)).trans (alloc_new (by simp)))
  · exact (alloc_old (by simp <;> omega)).trans (alloc_new (by simp))
  · exact alloc_new (by simp)
  · exact (alloc_old (by simp <;> omega)).trans ((alloc_old (by simp <;> omega)).trans ((alloc_old (by simp <;> omega)).trans (alloc_old hk)))
  · show w.heap.size ≤ ((((w.alloc a).alloc b).alloc c).alloc d).heap.size
    simp
    omega
theorem cell_in {W : World} {b : Nat} {v : Value} {t : TypeId} (h : W.heap[b]? = some (.cells #[v] t)) : W.cell? ⟨b, 0, none⟩ = some v := by simp [World.cell?, h]

noncomputable def r40 : Code := match Try.f40.body with
  | some (.seq _ (.seq r _)) => r
  | _ => .skip

set_option maxRecDepth 100000 in
set_option maxHeartbeats 4000000 in
theorem region1 (w : World) {y0 y1 y2 y3 y4 y5 y6 y7 y8 y9 y10 y11 y12 y13 y14 y15 y16 y17 y18 y19 y20 y21 y22 y23 y24 y25 y26 y27 : Value} (K : Act → World → Prop) (R : Exit → Act → World → Prop)
    (hK : ∀ c e x7 x8 W, Made w W c e x7 x8 → K ⟨#[y0, y1, y2, y3, y4, y5, y6, .pointer (some ⟨x7, 0, none⟩), .pointer (some ⟨x8, 0, none⟩), y9, y10, .chan (some c), .chan (some e), y13, y14, y15, y16, y17, y18, y19, y20, y21, y22, y23, y24, y25, y26, y27], []⟩ W) :
    r40.wp Try.prog (Exit.then K R) ⟨#[y0, y1, y2, y3, y4, y5, y6, y7, y8, y9, y10, y11, y12, y13, y14, y15, y16, y17, y18, y19, y20, y21, y22, y23, y24, y25, y26, y27], []⟩ w := by
  have m4 := mkchan54
  have m5 := mkchan55
  show (Code.region 1 #[{ dst := some 11, op := Op.makeChan 54 (Operand.const (Value.int IntKind.i64 0)), type := 54, pos := "l9_clock.go:290", after := #[], guard := none },
                { dst := some 12, op := Op.makeChan 55 (Operand.const (Value.int IntKind.i64 0)), type := 55, pos := "l9_clock.go:290", after := #[], guard := none },
                { dst := some 7, op := Op.alloc 54, type := 0, pos := "l9_clock.go:290", after := #[], guard := none },
                { dst := some 8, op := Op.alloc 55, type := 0, pos := "l9_clock.go:290", after := #[], guard := none },
                { dst := none, op := Op.store 54 (Operand.tmp 7) (Operand.tmp 11), type := 0, pos := "l9_clock.go:290",
                  after := #[{ on := 2, ground := Ground.data }, { on := 0, ground := Ground.data }, { on := 0, ground := Ground.phase }, { on := 1, ground := Ground.textOnly Departure.lateStoresUnsure }, { on := 2, ground := Ground.phase }, { on := 3, ground := Ground.phase }], guard := none },
                { dst := none, op := Op.store 55 (Operand.tmp 8) (Operand.tmp 12), type := 0, pos := "l9_clock.go:290",
                  after := #[{ on := 3, ground := Ground.data }, { on := 1, ground := Ground.data }, { on := 4, ground := Ground.chain }, { on := 0, ground := Ground.phase }, { on := 1, ground := Ground.phase }, { on := 2, ground := Ground.phase }, { on := 3, ground := Ground.phase }, { on := 4, ground := Ground.phase }], guard := none }] true).wp Try.prog _ _ _
  go_region
  all_goals
    (refine hK _ _ _ _ _ ⟨(four w _ _ _ _).sz, (four w _ _ _ _).old, ?_, ?_, ?_, ?_, by omega, by omega, by omega⟩
     · first | exact (four w _ _ _ _).h0 | exact (four w _ _ _ _).h1 | exact (four w _ _ _ _).h2 | exact (four w _ _ _ _).h3
     · first | exact (four w _ _ _ _).h0 | exact (four w _ _ _ _).h1 | exact (four w _ _ _ _).h2 | exact (four w _ _ _ _).h3
     · first | exact cell_in (four w _ _ _ _).h0 | exact cell_in (four w _ _ _ _).h1 | exact cell_in (four w _ _ _ _).h2 | exact cell_in (four w _ _ _ _).h3
     · first | exact cell_in (four w _ _ _ _).h0 | exact cell_in (four w _ _ _ _).h1 | exact cell_in (four w _ _ _ _).h2 | exact cell_in (four w _ _ _ _).h3)
end Go.Proofs.Ytnahlemchajfdaa.Meta
