/- Plain functions in company, and what a world keeps: the heap alone. -/
import Derived.Test.YtnahlemchajfdaaTk1
namespace Go.Proofs.Ytnahlemchajfdaa
open Go.Conc Go.RowKit Go.IntWalk Go.Proofs.Ytnahlemchajfdaa.Meta

/-- Nothing that was there has turned: the heap alone. -/
structure NH (w w' : World) : Prop where
  sz : w.heap.size ≤ w'.heap.size
  old : ∀ k, k < w.heap.size → w'.heap[k]? = w.heap[k]?
theorem NH.refl (w : World) : NH w w := ⟨Nat.le_refl _, fun _ _ => rfl⟩
theorem NH.trans {a b c : World} (h : NH a b) (k : NH b c) : NH a c := ⟨Nat.le_trans h.sz k.sz, fun i hi => (k.old i (by have := h.sz; omega)).trans (h.old i hi)⟩
theorem NH.of_new {w w' : World} (h : New w w') : NH w w' := ⟨h.size, h.block⟩
theorem NH.wt {w w' : World} (h : NH w w') (τ : Nat → Question → Nat) (d : Nat) : NH w (Meta.wt w' τ d) := ⟨h.sz, h.old⟩
theorem NH.cell {w w' : World} (h : NH w w') {p : Addr} {v : Value} (hc : w.cell? p = some v) : w'.cell? p = some v :=
  (World.cell?_of_block (h.old _ (World.block_lt_of_cell? _ _ hc))).trans hc
theorem NH.alloc {w w' : World} (h : NH w w') (o : Obj) : NH w (w'.alloc o) := h.trans ⟨by simp, fun k hk => alloc_old hk⟩

/-- A plain function's lone contract, in company. -/
theorem callsC_val {P : Program} {S : FuncId → Bool} (hS : Meta.Shut P S) {f : FuncId} (hf : S f = true) {args : Array Value} {w : World} {v : Value} (h : ∀ τ, Calls P f args (Meta.wt w τ 0) fun e w' => e = .returned v ∧ New (Meta.wt w τ 0) w') :
    CallsC P f args w fun u w' => u = v ∧ NH w w' :=
  CallsC.of_lone hS hf (fun _ _ τ d q => ⟨q.1, q.2.wt τ d⟩) fun τ => (h τ).mono fun _ w' q => ⟨v, q.1, rfl, show NH w w' from ⟨q.2.size, q.2.block⟩⟩

/-- The end of the law. -/
theorem gc_ends {P : Program} {Post : Value → World → Prop} {b : Frame} {a : Act} {k : List Item} {w : World} {fn : Func} {v : Value} (hbk : b.kind = .normal) (hd : a.defers = []) (hf : P.funcs[b.fn]? = some fn) (hi : P.inits.idxOf? b.fn = none)
    (hr : ResultsC P fn a.tmps v) (hp : ∀ τ d, Post v (Meta.wt w τ d)) : GoesC P (EndsW P Post) (G { b.at a k with mode := .returning } []) w :=
  .stop fun τ d d' => ⟨rfl, v, #[], by
    have h1 := (hr ((Meta.wt w τ d).at d')).1
    have h2 := (hr ((Meta.wt w τ d).at d')).2
    simp [G, stepG, unwind, doReturn, Frame.at, hbk, hd, hf, h1, h2, hi, seen, GStep.after], fun e he => by simp at he, hp τ d'⟩

/-- The functions that start nothing. -/
def plainS : List FuncId := [9, 10, 12, 13, 15, 16, 17, 18, 20, 22, 24, 26, 27, 28, 29, 30, 31, 33, 34, 37, 38, 39, 42]
theorem plain_shut : Meta.Shut Try.prog (fun f => plainS.contains f) := shut_of (by kernel_rfl)
end Go.Proofs.Ytnahlemchajfdaa
