/- Rules for the worker and the holder. -/
import Derived.Test.YtnahlemchajfdaaMt3
import Derived.Conc.DeferLaws
import Derived.Conc.EventLaws
import Derived.Conc.QuitsD
import Derived.Conc.CompanyWords
import Derived.Conc.AppendWalk
import Derived.Laws.AppendOwn
import Derived.Laws.OwnMore
import Derived.Great.BuildSlice
namespace Go.Proofs.Ytnahlemchajfdaa.Meta
open Go Go.Conc

section
variable (P : Program) (K : World → Prop) (Still : Loc → Prop) (B : Nat)
/-- A pure walk of a worker's, of at most n steps, to a stop. -/
def PuN (T : Goroutine → Prop) : Nat → Goroutine → Prop
  | 0, g => T g
  | n + 1, g => T g ∨ (g.status = .running ∧ ∃ g', (∀ w, K w → ∃ (d : Nat) (es : Array Event), (∀ x ∈ es, RdEv Still B x) ∧ stepG P false g w = .go g' (w.at d) es) ∧ PuN T n g')
def Pu (T : Goroutine → Prop) (g : Goroutine) : Prop := ∃ n, PuN P K Still B T n g
end

section
variable {P : Program} {K : World → Prop} {Still : Loc → Prop} {B c e : Nat} {v z : Value} {X T : Goroutine → Prop} {b : Frame} {a : Act} {k : List Item} {cs : List Frame}

theorem pureN_of {g : Goroutine} : ∀ n, PuN P K Still B (SendAt P K c v z X) n g → PureN P K Still c v z X B n g := by
  intro n
  induction n generalizing g with
  | zero => exact id
  | succ n ih => exact fun h => h.imp id fun ⟨h1, g', h2, h3⟩ => ⟨h1, g', h2, ih h3⟩
theorem pureC_of {g : Goroutine} : ∀ n, PuN P K Still B (CloseAt P K Still e B) n g → PureC P K Still e B n g := by
  intro n
  induction n generalizing g with
  | zero => exact id
  | succ n ih => exact fun h => h.imp id fun ⟨h1, g', h2, h3⟩ => ⟨h1, g', h2, ih h3⟩

theorem pu_act {a' : Act} (ha : a = a') (h : Pu P K Still B T (G (b.at a' k) cs)) : Pu P K Still B T (G (b.at a k) cs) := ha ▸ h
theorem pu_done {g : Goroutine} (h : T g) : Pu P K Still B T g := ⟨0, h⟩
theorem pu_step {g g' : Goroutine} (hr : g.status = .running) (h : ∀ w, K w → ∃ (d : Nat) (es : Array Event), (∀ x ∈ es, RdEv Still B x) ∧ stepG P false g w = .go g' (w.at d) es) (hg : Pu P K Still B T g') : Pu P K Still B T g := by
  obtain ⟨n, hn⟩ := hg
  exact ⟨n + 1, .inr ⟨hr, g', h, hn⟩⟩
theorem pu_still {g g' : Goroutine} (hr : g.status = .running) (h : ∀ w, stepG P false g w = .go g' w #[]) (hg : Pu P K Still B T g') : Pu P K Still B T g :=
  pu_step hr (fun w _ => ⟨w.drawn, #[], fun x hx => by simp at hx, h w⟩) hg

theorem pu_seq {x y : Code} (h : Pu P K Still B T (G (b.at a (.code x :: .code y :: k)) cs)) : Pu P K Still B T (G (b.at a (.code (.seq x y) :: k)) cs) := pu_still rfl (fun w => stepG_seq) h
theorem pu_skip (h : Pu P K Still B T (G (b.at a k) cs)) : Pu P K Still B T (G (b.at a (.code .skip :: k)) cs) := pu_still rfl (fun w => stepG_skip) h
theorem pu_cond {c : Operand} {x y : Code} {t : Bool} (hc : a.eval c = .bool t) (h : Pu P K Still B T (G (b.at a (.code (if t then x else y) :: k)) cs)) : Pu P K Still B T (G (b.at a (.code (.cond c x y) :: k)) cs) :=
  pu_still rfl (fun w => stepG_cond hc) h
theorem pu_block {id : Nat} {c : Code} (h : Pu P K Still B T (G (b.at a (.code c :: .inBlock id :: k)) cs)) : Pu P K Still B T (G (b.at a (.code (.block id c) :: k)) cs) := pu_still rfl (fun w => stepG_block) h
theorem pu_inBlock {id : Nat} (h : Pu P K Still B T (G (b.at a k) cs)) : Pu P K Still B T (G (b.at a (.inBlock id :: k)) cs) := pu_still rfl (fun w => stepG_inBlock) h
theorem pu_exit {id : Nat} {k' : List Item} (hk : exitTo id k = some k') (h : Pu P K Still B T (G (b.at a k') cs)) : Pu P K Still B T (G (b.at a (.code (.exit id) :: k)) cs) := pu_still rfl (fun w => stepG_exit hk) h
theorem pu_loop {c : Code} (h : Pu P K Still B T (G (b.at a (.code c :: .inLoop c :: k)) cs)) : Pu P K Still B T (G (b.at a (.code (.loop c) :: k)) cs) := pu_still rfl (fun w => stepG_loop) h
theorem pu_inLoop {c : Code} (h : Pu P K Still B T (G (b.at a (.code c :: .inLoop c :: k)) cs)) : Pu P K Still B T (G (b.at a (.inLoop c :: k)) cs) := pu_still rfl (fun w => stepG_inLoop) h
theorem pu_region {id : Nat} {ops : Array Oper} (h : Pu P K Still B T (G (b.at a (.inRegion ops (List.range ops.size) :: k)) cs)) : Pu P K Still B T (G (b.at a (.code (.region id ops false) :: k)) cs) := pu_still rfl (fun w => stepG_region) h
theorem pu_nil {ops : Array Oper} (h : Pu P K Still B T (G (b.at a k) cs)) : Pu P K Still B T (G (b.at a (.inRegion ops [] :: k)) cs) := pu_still rfl (fun w => stepG_region_end) h
theorem pu_ret (h : ∀ todo, Pu P K Still B T (G { b.at a todo with mode := .returning } cs)) : Pu P K Still B T (G (b.at a (.code .ret :: k)) cs) := pu_still rfl (fun w => stepG_ret') (h _)
theorem pu_end (h : ∀ todo, Pu P K Still B T (G { b.at a todo with mode := .returning } cs)) : Pu P K Still B T (G (b.at a []) cs) := pu_still rfl (fun w => stepG_end) (h _)

/-- An operation that yields a value and leaves the world. -/
theorem pu_val {ops : Array Oper} {i : Nat} {rest : List Nat} {o : Oper} {v : Value} (ho : ops[i]? = some o) (hw : Region.wanted o (yielded ops a.tmps) = true) (hk : b.kind ≠ .early)
    (hr : ∀ w, K w → (execOp a.eval o).run P w = .ok (.value v) w) (he : ∀ w, K w → ∀ x ∈ (execOp a.eval o).events P w #[], RdEv Still B x)
    (h : Pu P K Still B T (G (b.at (a.put o.dst v) (.inRegion ops rest :: k)) cs)) : Pu P K Still B T (G (b.at a (.inRegion ops (i :: rest) :: k)) cs) :=
  pu_step rfl (fun w hK => ⟨w.drawn, listed P b.fn a o w, fun x hx => he w hK x (mem_seen x hx), stepG_value ho hw hk (hr w hK)⟩) h
theorem pu_move {ops : Array Oper} {i : Nat} {rest : List Nat} {o : Oper} {x : Operand} (ho : ops[i]? = some o) (hw : Region.wanted o (yielded ops a.tmps) = true) (hk : b.kind ≠ .early) (hop : o.op = .move x)
    (h : Pu P K Still B T (G (b.at (a.put o.dst (a.eval x)) (.inRegion ops rest :: k)) cs)) : Pu P K Still B T (G (b.at a (.inRegion ops (i :: rest) :: k)) cs) :=
  pu_val ho hw hk (fun w _ => by unfold execOp; simp [hop]) (fun w _ x hx => by unfold execOp at hx; simp [hop] at hx) h
theorem pu_assign {ops : Array Oper} {i : Nat} {rest : List Nat} {o : Oper} {x : Operand} (ho : ops[i]? = some o) (hw : Region.wanted o (yielded ops a.tmps) = true) (hk : b.kind ≠ .early) (hop : o.op = .assign x)
    (h : Pu P K Still B T (G (b.at (a.put o.dst (a.eval x)) (.inRegion ops rest :: k)) cs)) : Pu P K Still B T (G (b.at a (.inRegion ops (i :: rest) :: k)) cs) :=
  pu_val ho hw hk (fun w _ => by unfold execOp; simp [hop]) (fun w _ x hx => by unfold execOp at hx; simp [hop] at hx) h

/-- A call is entered. -/
theorem pu_enter {ops : Array Oper} {i : Nat} {rest : List Nat} {o : Oper} {f : FuncId} {args : Array Value} (ho : ops[i]? = some o) (hw : Region.wanted o (yielded ops a.tmps) = true) (hk : b.kind ≠ .early)
    (hr : ∀ w, (execOp a.eval o).run P w = .ok (.enter f args) w) (he : ∀ w, (execOp a.eval o).events P w #[] = #[])
    (h : Pu P K Still B T (G (Frame.enter P f args .normal) (b.at a (.inRegion ops (i :: rest) :: k) :: cs))) : Pu P K Still B T (G (b.at a (.inRegion ops (i :: rest) :: k)) cs) :=
  pu_still rfl (fun w => by rw [stepG_enter ho hw hk (hr w), listed_nil (he w)]) h
theorem run_call_fv {w : World} {o : Oper} {f : FuncId} {fn : Func} {code : Code} {x : Operand} {args : Array Operand} {ats : Array TypeId} {fi ca : Array Value} (hop : o.op = .call { callee := .value x, args, argTypes := ats })
    (hx : a.eval x = .func (.func f) fi ca) (hf : P.funcs[f]? = some fn) (hname : (fn.name == "runtime.NumGoroutine") = false) (hb : fn.body = some code) :
    (execOp a.eval o).run P w = .ok (.enter f (fi ++ args.map a.eval ++ ca)) w ∧ (execOp a.eval o).events P w #[] = #[] := by
  have h1 : ¬ fn.name = "runtime.NumGoroutine" := by simpa using hname
  unfold execOp
  constructor
  · simp [hop, resolve, Deferred.ofValue, hx, invoke, callFunc, hf, h1, hb]
  · simp [hop, resolve, Deferred.ofValue, hx, invoke, callFunc, hf, h1, hb]
/-- A call through a function's value. -/
theorem pu_call {ops : Array Oper} {i : Nat} {rest : List Nat} {o : Oper} {f : FuncId} {fn : Func} {code : Code} {x : Operand} {args : Array Operand} {ats : Array TypeId} {fi ca : Array Value} {av : Array Value} (ho : ops[i]? = some o) (hw : Region.wanted o (yielded ops a.tmps) = true) (hk : b.kind ≠ .early)
    (hop : o.op = .call { callee := .value x, args, argTypes := ats }) (hx : a.eval x = .func (.func f) fi ca) (hf : P.funcs[f]? = some fn) (hname : (fn.name == "runtime.NumGoroutine") = false) (hb : fn.body = some code)
    (hav : fi ++ args.map a.eval ++ ca = av)
    (h : Pu P K Still B T (G (Frame.enter P f av .normal) (b.at a (.inRegion ops (i :: rest) :: k) :: cs))) : Pu P K Still B T (G (b.at a (.inRegion ops (i :: rest) :: k)) cs) :=
  pu_enter ho hw hk (fun w => (run_call_fv hop hx hf hname hb).1) (fun w => (run_call_fv hop hx hf hname hb).2) (by rw [hav]; exact h)
/-- A return to a caller. -/
theorem pu_leave {fn : Func} {v : Value} {c : Frame} {todo : List Item} (hn : b.kind = .normal) (hd : a.defers = []) (hf : P.funcs[b.fn]? = some fn) (hr : ResultsC P fn a.tmps v)
    (h : Pu P K Still B T (G (c.finish v) cs)) : Pu P K Still B T (G { b.at a todo with mode := .returning } (c :: cs)) :=
  pu_still rfl (fun w => stepG_leave hn hd hf (hr w).1 (hr w).2) h

/-- The deferred close of a channel. -/
def dclose (e : Nat) (ats : Array TypeId) (t : TypeId) (cs : Array Bool) : Deferred := { target := .builtin .close ats t cs, args := #[.chan (some e)] }

def constArg : Operand → Bool
  | .const _ => true
  | _ => false
theorem pu_defer {ops : Array Oper} {i : Nat} {rest : List Nat} {o : Oper} {x : Operand} {ats : Array TypeId} (ho : ops[i]? = some o) (hw : Region.wanted o (yielded ops a.tmps) = true) (hk : b.kind ≠ .early)
    (hop : o.op = .defer { callee := .builtin .close, args := #[x], argTypes := ats }) (hx : a.eval x = .chan (some e))
    (h : Pu P K Still B T (G (b.at (Act.put ⟨a.tmps, dclose e ats o.type #[constArg x] :: a.defers⟩ o.dst undef) (.inRegion ops rest :: k)) cs)) : Pu P K Still B T (G (b.at a (.inRegion ops (i :: rest) :: k)) cs) := by
  refine pu_still rfl (fun w => ?_) h
  have hr : (execOp a.eval o).run P w = .ok (.defer (dclose e ats o.type #[constArg x])) w := by
    unfold execOp
    simp [hop, resolve, dclose, hx]
    cases x <;> rfl
  have he : (execOp a.eval o).events P w #[] = #[] := by
    unfold execOp
    simp [hop, resolve]
  have hfin : (b.at ⟨a.tmps, dclose e ats o.type #[constArg x] :: a.defers⟩ (.inRegion ops (i :: rest) :: k)).finish undef = b.at (Act.put ⟨a.tmps, dclose e ats o.type #[constArg x] :: a.defers⟩ o.dst undef) (.inRegion ops rest :: k) := by rw [Frame.finish_at, ho]; rfl
  have hk' : (b.kind == CallKind.early) = false := by simpa using hk
  rw [stepG_oper ho hw, ← hfin]
  simp [stepG.apply, hr, he, G, Frame.at, hk', GStep.after, seen_none]

/-- The frame at a goroutine's bottom, once its one call has been made. -/
def bottom (P : Program) : Frame := { (default : Frame) with fn := P.funcs.size, defers := [], mode := .panicking [goexitEntry] }

theorem pu_born {f : FuncId} {fn : Func} {code : Code} {caps args : Array Value} (hf : P.funcs[f]? = some fn) (hname : (fn.name == "runtime.NumGoroutine") = false) (hb : fn.body = some code)
    (h : Pu P K Still B T (G (Frame.enter P f (args ++ caps) .deferred) [bottom P])) : Pu P K Still B T (born P { target := .fn (.func f) caps, args := args }) := by
  refine pu_still rfl (fun w => ?_) h
  have h1 : ¬ fn.name = "runtime.NumGoroutine" := by simpa using hname
  simp [born, stepG, unwind, callDeferred, invoke, callFunc, hf, h1, hb, GStep.after, seen_none, G, bottom]

/-- THE GOROUTINE's END: its deferred close is all that is left to do. -/
theorem closeAt_of {fn : Func} {tmps : Array Value} {todo : List Item} {ats : Array TypeId} {t : TypeId} {q : Array Bool} (hbk : b.kind = .deferred) (hf : P.funcs[b.fn]? = some fn) (hres : fn.results = #[]) (he : e < B) (hse : Still (.obj e)) :
    CloseAt P K Still e B (G { b.at ⟨tmps, [dclose e ats t q]⟩ todo with mode := .returning } [bottom P]) := by
  refine ⟨rfl, ?_, G { b.at ⟨tmps, []⟩ todo with mode := .returning } [bottom P], 2, rfl, ?_, fun w hK s r tm hc => ⟨w.drawn, #[⟨.obj e, false, true⟩], fun x hx => ?_, ?_⟩⟩
  · simp [mayWake, G, Frame.at]
  · have hcatch : ∀ w, stepG P false (G (bottom P) []) w = .go { G (bottom P) [] with status := .finished } w := by
      intro w
      have hc : (bottom P).catches P = false := by simp [Frame.catches, bottom]; rfl
      have hd : (bottom P).defers = [] := rfl
      have hm : (bottom P).mode = .panicking [goexitEntry] := rfl
      have hg : goexitEntry.goexit = true := rfl
      simp [G, stepG, unwind, hd, hm, hc, hg]
    refine .ctl rfl (g' := G (bottom P) []) (fun w => ?_) (.ctl rfl hcatch ⟨rfl, rfl⟩)
    have h1 := results_none hres tmps P w
    have h2 := events_results_none (P := P) (w := w) hres tmps #[]
    have hg : goexitEntry.recovered = false := rfl
    simp [G, stepG, unwind, doReturn, Frame.at, hbk, hf, h1, h2, seen, GStep.after, bottom]
    split
    · rename_i h; simp [goexitEntry] at h
    · rfl
  · obtain rfl : x = _ := by simpa using hx
    exact ⟨fun b hb => by
      have hb' : some (⟨.obj e, false, .atomic⟩ : Touch) = some b := hb
      cases hb'
      exact ⟨rfl, hse⟩, by simp, by simp, he⟩
  · have hr := run_close_open (P := P) ats t hc
    have hev := events_close_open (P := P) (es := #[]) ats t hc
    have hinv : (invoke (dclose e ats t q).target (dclose e ats t q).args).run P w = .ok (.value (.tuple #[])) (w.setChan e 0 #[] true s r tm) := by
      simp [invoke, dclose, builtin, hr]
      rfl
    have hine : (invoke (dclose e ats t q).target (dclose e ats t q).args).events P w #[] = #[⟨.obj e, false, true⟩, ⟨.obj e, true, true⟩] := by
      simp [invoke, dclose, builtin, hr, hev]
    have hseen : seen P b.fn #[⟨.obj e, false, true⟩, ⟨.obj e, true, true⟩] = #[⟨.obj e, false, true⟩, ⟨.obj e, true, true⟩] := by
      simp [seen]
    have hrt : (invoke (dclose e ats t q).target (dclose e ats t q).args).runT P w #[] = (.ok (.value (.tuple #[])) (w.setChan e 0 #[] true s r tm), #[⟨.obj e, false, true⟩, ⟨.obj e, true, true⟩]) := by
      rw [Sem.runT_eq, hinv, hine]
    have htg : ∀ x, (dclose e ats t q).target ≠ .collected x := fun x h => by cases h
    have hun : stepG P false (G { b.at ⟨tmps, [dclose e ats t q]⟩ todo with mode := .returning } [bottom P]) w = callDeferred P { b.at ⟨tmps, []⟩ todo with mode := .returning } [bottom P] none (dclose e ats t q) w := by
      simp [G, stepG, Frame.at, unwind, dclose]
    rw [hun]
    unfold callDeferred
    simp only [hrt]
    simp [dclose, Frame.at, GStep.after, hseen, G]
    rfl

theorem puN_ofN {g : Goroutine} : ∀ n, PureN P K Still c v z X B n g → PuN P K Still B (SendAt P K c v z X) n g := by
  intro n
  induction n generalizing g with
  | zero => exact id
  | succ n ih => exact fun h => h.imp id fun ⟨h1, g', h2, h3⟩ => ⟨h1, g', h2, ih h3⟩
theorem puN_ofC {g : Goroutine} : ∀ n, PureC P K Still e B n g → PuN P K Still B (CloseAt P K Still e B) n g := by
  intro n
  induction n generalizing g with
  | zero => exact id
  | succ n ih => exact fun h => h.imp id fun ⟨h1, g', h2, h3⟩ => ⟨h1, g', h2, ih h3⟩
theorem wg_nil {g : Goroutine} (h : Pu P K Still B (CloseAt P K Still e B) g) : WGives P K Still c e z B [] g := by
  obtain ⟨n, hn⟩ := h
  exact ⟨n, pureC_of n hn⟩
theorem wg_cons {vs : List Value} {g : Goroutine} (h : Pu P K Still B (SendAt P K c v z (fun g0 => WGives P K Still c e z B vs (g0.finishComm P #[scase c v z] .send 0 undef false))) g) : WGives P K Still c e z B (v :: vs) g := by
  obtain ⟨n, hn⟩ := h
  exact ⟨n, pureN_of n hn⟩
/-- Pure steps ahead of a script. -/
theorem wg_back {vs : List Value} {g g' : Goroutine} (h : WGives P K Still c e z B vs g') (hb : ∀ T, Pu P K Still B T g' → Pu P K Still B T g) : WGives P K Still c e z B vs g := by
  cases vs with
  | nil => obtain ⟨n, hn⟩ := h; exact wg_nil (hb _ ⟨n, puN_ofC n hn⟩)
  | cons v vs => obtain ⟨n, hn⟩ := h; exact wg_cons (hb _ ⟨n, puN_ofN n hn⟩)

/-- It stands at a send. -/
theorem sendAt_of {ops : Array Oper} {i : Nat} {rest : List Nat} {o : Oper} {x y : Operand} (ho : ops[i]? = some o) (hw : Region.wanted o (yielded ops a.tmps) = true) (hk : b.kind ≠ .early)
    (hop : o.op = .send x y) (hx : a.eval x = .chan (some c)) (hy : a.eval y = v) (hX : X (G (b.at a (.inRegion ops (i :: rest) :: k)) cs)) :
    SendAt P K c v (.tuple #[]) X (G (b.at a (.inRegion ops (i :: rest) :: k)) cs) := by
  refine ⟨rfl, fun w _ => ?_, hX⟩
  have hr : (execOp a.eval o).run P w = .ok (.comm #[scase c v (.tuple #[])] true .send) w := by
    unfold execOp
    simp [hop, hx, hy, scase]
  have he : (execOp a.eval o).events P w #[] = #[] := by
    unfold execOp
    simp [hop]
  rw [stepG_comm ho hw hk hr, listed_nil he]
theorem finish_send {ops : Array Oper} {i : Nat} {rest : List Nat} {cases : Array CommCase} :
    (G (b.at a (.inRegion ops (i :: rest) :: k)) cs).finishComm P cases .send 0 undef false = G (b.at (a.put ((ops[i]?).bind (·.dst)) undef) (.inRegion ops rest :: k)) cs := by
  simp [Goroutine.finishComm, commResult, G, Frame.finish_at]
end
end Go.Proofs.Ytnahlemchajfdaa.Meta
namespace Go.Proofs.Ytnahlemchajfdaa.Meta
open Go Go.Conc

theorem np_setChan {w : World} (h : NPW w) {r : Nat} {cap : Nat} {buf : Array Value} {cl : Bool} {s q : Nat} {tm : Bool} : NPW (w.setChan r cap buf cl s q tm) := h.set (o := .chan cap buf cl s q tm) trivial rfl
theorem np_rely {e : Nat} {w w1 : World} (h : NPW w) (k : RE e w w1) : NPW w1 := by
  obtain ⟨d, rfl | ⟨s, r, tm, hs, rfl⟩⟩ := k
  · exact h.eq rfl
  · exact np_setChan (h.eq rfl)

section
variable {P : Program} {K : World → Prop} {Still : Loc → Prop} {c e : Nat} {Stop : Goroutine → World → Prop} {b : Frame} {a : Act} {k : List Item} {cs : List Frame} {w : World}

theorem dh_idle (w : World) : DH K Still c e w w #[] := ⟨⟨Nat.le_refl _, fun x hx => by simp at hx, fun x hx => by simp at hx, id, rfl⟩, rfl, rfl, rfl, rfl⟩
theorem gr_still {g g' : Goroutine} (hr : g.status = .running) (h : ∀ w, stepG P true g w = .go g' w #[]) (hg : GoesR P true (RE e) (DH K Still c e) Stop g' w) : GoesR P true (RE e) (DH K Still c e) Stop g w :=
  .of hr fun w1 k => ⟨g', w1, #[], h w1, dh_idle w1, hg.rely k⟩
theorem gr_bind {g : Goroutine} (h : GoesR P true (RE e) (DH K Still c e) (fun g' w' => GoesR P true (RE e) (DH K Still c e) Stop g' w') g w) : GoesR P true (RE e) (DH K Still c e) Stop g w := by
  induction h with
  | @stop g w h => exact h w (RE.at e w w.drawn)
  | step g' w' es hr h1 h2 ih => exact .step g' w' es hr h1 ih

theorem gr_act {a' : Act} (ha : a = a') (h : GoesR P true (RE e) (DH K Still c e) Stop (G (b.at a' k) cs) w) : GoesR P true (RE e) (DH K Still c e) Stop (G (b.at a k) cs) w := ha ▸ h
theorem gr_seq {x y : Code} (h : GoesR P true (RE e) (DH K Still c e) Stop (G (b.at a (.code x :: .code y :: k)) cs) w) : GoesR P true (RE e) (DH K Still c e) Stop (G (b.at a (.code (.seq x y) :: k)) cs) w := gr_still rfl (fun w => stepG_seq) h
theorem gr_cond {o : Operand} {x y : Code} {t : Bool} (hc : a.eval o = .bool t) (h : GoesR P true (RE e) (DH K Still c e) Stop (G (b.at a (.code (if t then x else y) :: k)) cs) w) : GoesR P true (RE e) (DH K Still c e) Stop (G (b.at a (.code (.cond o x y) :: k)) cs) w := gr_still rfl (fun w => stepG_cond hc) h
theorem gr_block {id : Nat} {x : Code} (h : GoesR P true (RE e) (DH K Still c e) Stop (G (b.at a (.code x :: .inBlock id :: k)) cs) w) : GoesR P true (RE e) (DH K Still c e) Stop (G (b.at a (.code (.block id x) :: k)) cs) w := gr_still rfl (fun w => stepG_block) h
theorem gr_inBlock {id : Nat} (h : GoesR P true (RE e) (DH K Still c e) Stop (G (b.at a k) cs) w) : GoesR P true (RE e) (DH K Still c e) Stop (G (b.at a (.inBlock id :: k)) cs) w := gr_still rfl (fun w => stepG_inBlock) h
theorem gr_loop {x : Code} (h : GoesR P true (RE e) (DH K Still c e) Stop (G (b.at a (.code x :: .inLoop x :: k)) cs) w) : GoesR P true (RE e) (DH K Still c e) Stop (G (b.at a (.code (.loop x) :: k)) cs) w := gr_still rfl (fun w => stepG_loop) h
theorem gr_inLoop {x : Code} (h : GoesR P true (RE e) (DH K Still c e) Stop (G (b.at a (.code x :: .inLoop x :: k)) cs) w) : GoesR P true (RE e) (DH K Still c e) Stop (G (b.at a (.inLoop x :: k)) cs) w := gr_still rfl (fun w => stepG_inLoop) h
theorem gr_region {id : Nat} {ops : Array Oper} (h : GoesR P true (RE e) (DH K Still c e) Stop (G (b.at a (.inRegion ops (List.range ops.size) :: k)) cs) w) : GoesR P true (RE e) (DH K Still c e) Stop (G (b.at a (.code (.region id ops false) :: k)) cs) w := gr_still rfl (fun w => stepG_region) h
theorem gr_nil {ops : Array Oper} (h : GoesR P true (RE e) (DH K Still c e) Stop (G (b.at a k) cs) w) : GoesR P true (RE e) (DH K Still c e) Stop (G (b.at a (.inRegion ops [] :: k)) cs) w := gr_still rfl (fun w => stepG_region_end) h

/-- An operation, in each world that the others may have turned. -/
theorem gr_op {ops : Array Oper} {i : Nat} {rest : List Nat} {o : Oper} (hk : b.kind ≠ .early) (ho : ops[i]? = some o) (hw : Region.wanted o (yielded ops a.tmps) = true) (hp : opOk (fun _ => false) o.op = true) (hn : NPW w)
    (h : ∀ w1, RE e w w1 → NPW w1 → ∃ v w', (execOp a.eval o).run P w1 = .ok (.value v) w' ∧ (∀ x ∈ (execOp a.eval o).events P w1 #[], ∀ y, (MemAct.ofEvent x).touch? = some y → Still y.loc → y.write = false) ∧ (K w1 → K w') ∧
      w'.heap[c]? = w1.heap[c]? ∧ w'.heap[e]? = w1.heap[e]? ∧ (NPW w' → GoesR P true (RE e) (DH K Still c e) Stop (G (b.at (a.put o.dst v) (.inRegion ops rest :: k)) cs) w')) :
    GoesR P true (RE e) (DH K Still c e) Stop (G (b.at a (.inRegion ops (i :: rest) :: k)) cs) w := by
  refine .of rfl fun w1 hk1 => ?_
  obtain ⟨v, w', hr, hst, hK, hc, he, hg⟩ := h w1 hk1 (np_rely hn hk1)
  have hdp := dp_op (fn := b.fn) hp (np_rely hn hk1) hr
  exact ⟨_, w', _, stepG_value ho hw hk hr, ⟨⟨hdp.2.1, hdp.2.2.2.2.2, fun x hx y hy hs => hst x (mem_seen x hx) y hy hs, hK, hc⟩, he, hdp.2.2.1, hdp.2.2.2.1, hdp.2.2.2.2.1⟩, hg hdp.1⟩

theorem touch_read {x : Event} (h : x.write = false ∧ ∀ m, x.loc ≠ .mark m) {y : Touch} (hy : (MemAct.ofEvent x).touch? = some y) : y.write = false := by
  obtain ⟨loc, wr, sy⟩ := x
  obtain ⟨h, hm⟩ := h
  simp only at h hm
  subst h
  cases loc with
  | mark m => exact absurd rfl (hm m)
  | _ => cases sy <;> (simp_all [MemAct.ofEvent, MemAct.touch?]; subst hy; rfl)

/-- An operation that leaves the world. -/
theorem gr_val {ops : Array Oper} {i : Nat} {rest : List Nat} {o : Oper} {v : Value} (hk : b.kind ≠ .early) (ho : ops[i]? = some o) (hw : Region.wanted o (yielded ops a.tmps) = true) (hp : opOk (fun _ => false) o.op = true) (hn : NPW w)
    (hr : ∀ w1, RE e w w1 → (execOp a.eval o).run P w1 = .ok (.value v) w1) (he : ∀ w1, RE e w w1 → ∀ x ∈ (execOp a.eval o).events P w1 #[], x.write = false ∧ ∀ m, x.loc ≠ .mark m)
    (h : GoesR P true (RE e) (DH K Still c e) Stop (G (b.at (a.put o.dst v) (.inRegion ops rest :: k)) cs) w) :
    GoesR P true (RE e) (DH K Still c e) Stop (G (b.at a (.inRegion ops (i :: rest) :: k)) cs) w :=
  gr_op hk ho hw hp hn fun w1 k1 _ => ⟨v, w1, hr w1 k1, fun x hx y hy _ => touch_read (he w1 k1 x hx) hy, id, rfl, rfl, fun _ => h.rely k1⟩
theorem gr_move {ops : Array Oper} {i : Nat} {rest : List Nat} {o : Oper} {x : Operand} (hk : b.kind ≠ .early) (ho : ops[i]? = some o) (hw : Region.wanted o (yielded ops a.tmps) = true) (hn : NPW w) (hop : o.op = .move x)
    (h : GoesR P true (RE e) (DH K Still c e) Stop (G (b.at (a.put o.dst (a.eval x)) (.inRegion ops rest :: k)) cs) w) : GoesR P true (RE e) (DH K Still c e) Stop (G (b.at a (.inRegion ops (i :: rest) :: k)) cs) w :=
  gr_val hk ho hw (by rw [hop]; rfl) hn (fun w _ => by unfold execOp; simp [hop]) (fun w _ x hx => by unfold execOp at hx; simp [hop] at hx) h
theorem gr_assign {ops : Array Oper} {i : Nat} {rest : List Nat} {o : Oper} {x : Operand} (hk : b.kind ≠ .early) (ho : ops[i]? = some o) (hw : Region.wanted o (yielded ops a.tmps) = true) (hn : NPW w) (hop : o.op = .assign x)
    (h : GoesR P true (RE e) (DH K Still c e) Stop (G (b.at (a.put o.dst (a.eval x)) (.inRegion ops rest :: k)) cs) w) : GoesR P true (RE e) (DH K Still c e) Stop (G (b.at a (.inRegion ops (i :: rest) :: k)) cs) w :=
  gr_val hk ho hw (by rw [hop]; rfl) hn (fun w _ => by unfold execOp; simp [hop]) (fun w _ x hx => by unfold execOp at hx; simp [hop] at hx) h

/-- It stands at a select over two channels, to receive. -/
theorem atSelA_of {ops : Array Oper} {i : Nat} {rest : List Nat} {o : Oper} {x y : Operand} {tx ty : TypeId} {z0 z1 : Value} (hk : b.kind ≠ .early) (ho : ops[i]? = some o) (hw : Region.wanted o (yielded ops a.tmps) = true)
    (hop : o.op = .select #[{ chan := x, send := none, elem := tx }, { chan := y, send := none, elem := ty }] true) (hx : a.eval x = .chan (some c)) (hy : a.eval y = .chan (some e))
    (h1 : (P.info? tx).bind (·.zero) = some z0) (h3 : (P.info? ty).bind (·.zero) = some z1) : AtSelA P c e z0 z1 (G (b.at a (.inRegion ops (i :: rest) :: k)) cs) := by
  obtain ⟨ix, h1, h2⟩ := Option.bind_eq_some_iff.1 h1
  obtain ⟨iy, h3, h4⟩ := Option.bind_eq_some_iff.1 h3
  refine ⟨rfl, fun w => ?_⟩
  have hr : (execOp a.eval o).run P w = .ok (.comm #[rcase c z0, rcase e z1] true .select) w := by
    unfold execOp
    simp [hop, hx, hy, rcase, zeroValue, typeInfo, h1, h2, h3, h4]
  have he : (execOp a.eval o).events P w #[] = #[] := by
    unfold execOp
    simp [hop, hx, hy, zeroValue, typeInfo, h1, h2, h3, h4]
  rw [stepG_comm ho hw hk hr, listed_nil he]
theorem finish_select {ops : Array Oper} {i : Nat} {rest : List Nat} {z0 z1 v : Value} {n : Int} {ok : Bool} :
    (G (b.at a (.inRegion ops (i :: rest) :: k)) cs).finishComm P #[rcase c z0, rcase e z1] .select n v ok = G (b.at (a.put ((ops[i]?).bind (·.dst)) (commResult #[rcase c z0, rcase e z1] .select n v ok)) (.inRegion ops rest :: k)) cs := by
  simp [Goroutine.finishComm, G, Frame.finish_at]
theorem alloc_old {w : World} {o : Obj} {k : Nat} (h : k < w.heap.size) : (w.alloc o).heap[k]? = w.heap[k]? := by
  show (w.heap.push o)[k]? = _
  rw [Array.getElem?_push_lt h, Array.getElem?_eq_getElem h]
theorem run_append_op {o : Oper} {w w' : World} {v xv v' : Value} (s x : Operand) (t : TypeId)
    (ho : o.op = .call { callee := .builtin .append, args := #[s, x], argTypes := #[t, t] }) (hs : a.eval s = v) (hx : a.eval x = xv)
    (hr : (Builtin.append_ #[t, t] o.type #[v, xv]).run P w = .ok v' w') : (execOp a.eval o).run P w = .ok (.value v') w' := by
  unfold execOp
  simp only [ho, resolve, invoke, builtin, Sem.run_bind, Sem.run_pure, Result.andThen_ok, List.map_toArray, List.map_cons, List.map_nil, hs, hx, hr]
theorem cell_rely {W W1 : World} {p : Addr} {v : Value} (h : W.cell? p = some v) (k : RE e W W1) : W1.cell? p = some v := by
  obtain ⟨d, rfl | ⟨q, r, tm, hs, rfl⟩⟩ := k
  · exact h
  · have hne : p.block ≠ e := by
      rintro rfl
      simp [World.cell?, hs] at h
    refine (World.cell?_of_block ?_).trans (show (W.at d).cell? p = some v from h)
    simp only [World.setChan]
    exact Array.getElem?_setIfInBounds_ne (Ne.symm hne)
theorem neutral_touch {m : Mark} {wr sy : Bool} (h : Neutral m) : (MemAct.ofEvent ⟨.mark m, wr, sy⟩).touch? = none := by
  cases m <;> first | rfl | (exact absurd h (by simp [Neutral]))
theorem commRes0 {z0 z1 v : Value} {ok : Bool} : commResult #[rcase c z0, rcase e z1] .select 0 v ok = .tuple #[.int .i64 0, .bool ok, v, z1] := by
  simp [commResult, rcase, goInt, Array.zipIdx]
theorem commRes1 {z0 z1 v : Value} {ok : Bool} : commResult #[rcase c z0, rcase e z1] .select 1 v ok = .tuple #[.int .i64 1, .bool ok, z0, v] := by
  simp [commResult, rcase, goInt, Array.zipIdx]
end
end Go.Proofs.Ytnahlemchajfdaa.Meta
