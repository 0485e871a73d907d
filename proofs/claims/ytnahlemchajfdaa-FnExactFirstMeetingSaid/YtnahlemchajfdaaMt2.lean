/- A walk alone is a walk in company: for plain functions. -/
import Derived.Test.YtnahlemchajfdaaMtD
import Derived.Calls
import Derived.Conc.CompanyCalls
namespace Go.Proofs.Ytnahlemchajfdaa.Meta
open Go

/-- What a built-in may be in a plain text. -/
def biOk : Builtin → Bool
  | .append | .cap | .clear | .copy | .delete | .len | .max | .min => true
  | _ => false
def callOk (S : FuncId → Bool) (c : Call) : Bool :=
  match c.callee with
  | .value (.func f) => S f
  | .builtin b => biOk b
  | _ => false
def opOk (S : FuncId → Bool) : Op → Bool
  | .call c => callOk S c
  | .go _ | .defer _ | .panic _ | .send .. | .recv .. | .select .. | .ready _ | .waits _ | .entry _ => false
  | _ => true
def codeOk (S : FuncId → Bool) : Code → Bool
  | .skip | .exit _ | .label _ | .ret | .refuse _ => true
  | .region _ ops _ => ops.all fun o => opOk S o.op
  | .seq a b | .cond _ a b => codeOk S a && codeOk S b
  | .block _ c | .loop c | .scope c => codeOk S c
  | .rangeFunc .. | .goto _ => false
/-- No function begins a variable of the packages that is none of the first. -/
def unreadyB (P : Program) : Bool := P.follows .staticDataAhead && P.funcs.all fun f => (f.body.map readies).all (·.all (decide <| · < gmax))
def Unready (P : Program) : Prop := P.follows .staticDataAhead = true ∧ ∀ g, gmax ≤ g → P.stepOf g = none
theorem unready_of {P : Program} (h : unreadyB P = true) : Unready P := by
  unfold unreadyB at h
  rw [Bool.and_eq_true] at h
  refine ⟨h.1, fun g hg => ?_⟩
  unfold Program.stepOf
  rw [Array.findIdx?_eq_none_iff]
  intro f hf
  have h2 := Array.all_eq_true_iff_forall_mem.1 h.2 f hf
  cases hb : f.body with
  | none => rfl
  | some c =>
    rw [hb] at h2
    simp only [Option.map_some, Option.all_some, List.all_eq_true, decide_eq_true_eq] at h2
    simp only [Option.map_some, Option.any_some]
    cases hc : (readies c).contains g with
    | false => rfl
    | true => exact absurd (h2 g (by simpa using hc)) (by omega)
theorem early_bad {P : Program} (h : Unready P) {g : Nat} (hg : gmax ≤ g) (fr : Frame) (cs : List Frame) (dy : Option Dying) (w : World) : early P fr cs dy g w = .ended (.unsupported (.initOrder g) (fr.pos P)) w := by
  unfold early
  simp [h.1, h.2 g hg]
/-- A set of functions that call none but each other. -/
def Calling (P : Program) (S : FuncId → Bool) : Prop :=
  ∀ f, S f = true → ∃ fn c, P.funcs[f]? = some fn ∧ (fn.name == "runtime.NumGoroutine") = false ∧ fn.body = some c ∧ codeOk S c = true

def Shut (P : Program) (S : FuncId → Bool) : Prop := Unready P ∧ Calling P S

def NextOk (S : FuncId → Bool) : Next → Prop
  | .value _ | .skip => True
  | .enter f _ => S f = true
  | _ => False

theorem pl_v {S : FuncId → Bool} {P : Program} {s : Sem Value} (h : Pl P T1 s) : Pl P (NextOk S) (do pure (.value (← s))) := Pl.bind h fun _ _ => trivial
theorem pl_u {S : FuncId → Bool} {P : Program} {s : Sem Unit} (h : Pl P T1 s) : Pl P (NextOk S) (do s; pure .skip) := Pl.bind h fun _ _ => trivial

theorem pl_builtin {S : FuncId → Bool} (P : Program) (b : Builtin) (at_ : Array TypeId) (t : TypeId) (cs : Array Bool) (args : Array Value) (h : biOk b = true) :
    Pl P (NextOk S) (builtin b at_ t cs args) := by
  cases b <;> first | (exact absurd h (by decide)) | skip
  · exact pl_v (pl_Builtin_append_ P _ _ _)
  · exact pl_v (pl_Builtin_cap_ P _ _ _)
  · exact pl_v (pl_Builtin_clear_ P _ _ _)
  · exact pl_v (pl_Builtin_copy_ P _ _ _)
  · exact pl_v (pl_Builtin_delete_ P _ _ _)
  · exact pl_v (pl_Builtin_len_ P _ _ _)
  · exact pl_v (pl_Builtin_max_ P _ _ _)
  · exact pl_v (pl_Builtin_min_ P _ _ _)

theorem pl_callFunc {S : FuncId → Bool} {P : Program} (hS : Calling P S) (f : FuncId) (args : Array Value) (h : S f = true) : Pl P (NextOk S) (callFunc f args) := by
  obtain ⟨fn, c, hf, hn, hb, _⟩ := hS f h
  show Pl P (NextOk S) (match P.funcs[f]? with | none => _ | some fn => _)
  rw [hf]
  simp only [hn, hb, Option.isNone_some]
  exact h

theorem pl_rp {α : Type} {P : Program} {Q : α → Prop} (e : RuntimeError) : Pl P Q (runtimePanic (α := α) e) := by
  unfold runtimePanic
  refine Pl.bind (pl_program P) fun p _ => ?_
  cases e <;> first | exact trivial | exact Pl.bind (pl_elemOf P _) fun _ _ => Pl.bind (pl_newVar P _ _) fun _ _ => trivial

theorem pl_execOp {S : FuncId → Bool} {P : Program} (hS : Calling P S) (ρ : Operand → Value) (hρ : ∀ f, ρ (.func f) = .func (.func f) #[] #[]) (o : Oper) (h : opOk S o.op = true) : Pl P (NextOk S) (execOp ρ o) := by
  unfold execOp
  cases ho : o.op
  all_goals (rw [ho] at h; dsimp only)
  all_goals first | (exact Bool.noConfusion (show false = true from h)) | skip
  case pick => exact Pl.bind (pl_asBool P _) fun _ _ => by split <;> exact trivial
  case call c =>
    have h' : callOk S c = true := h
    unfold callOk at h'
    unfold resolve
    split at h'
    · rename_i f hc
      rw [hc]
      dsimp only
      rw [hρ]
      show Pl P (NextOk S) (callFunc f _)
      exact pl_callFunc hS f _ h'
    · rename_i b hc
      rw [hc]
      exact pl_builtin P _ _ _ _ _ h'
    · exact Bool.noConfusion h'
  case nilCheck x =>
    split
    · exact pl_rp _
    · exact pl_rp _
    · exact pl_rp _
    · split
      · exact pl_rp _
      · exact Pl.bind (pl_program P) fun _ _ => Pl.bind (pl_nilAhead P _ _ _ _) fun _ _ => pl_ite (Pl.bind (pl_unsupported P _ _ trivial) fun _ _ => trivial) trivial
      · exact trivial
    · exact trivial
  all_goals first
    | exact trivial
    | refine pl_v ?_
    | refine pl_u ?_
  all_goals first
    | exact pl_Instr_alloc P _ _ _
    | exact pl_Instr_box P _ _
    | exact pl_Instr_build P _ _
    | exact pl_Instr_buildSlice P _ _ _
    | exact pl_Instr_loadAt P _ _
    | exact pl_Instr_storeAt P _ _ _
    | exact pl_bind (pl_eqGuard P _ _ _ _ _ _) fun _ => pl_binOp P _ _ _ _
    | exact pl_Op_unary P _ _
    | exact pl_convert P _ _ _
    | exact pl_Instr_arrayAt P _ _
    | exact pl_Instr_makeInterface P _ _
    | exact pl_Instr_makeFunc P _ _ _
    | exact pl_Instr_makeMap P _ _
    | exact pl_Instr_makeChan P _ _
    | exact pl_Instr_makeSlice P _ _ _
    | exact pl_Instr_sliceAt P _ _ _ _ _
    | exact pl_Instr_fieldAt P _ _ _
    | exact pl_Instr_field P _ _ _
    | exact pl_Instr_indexAt P _ _ _
    | exact pl_Instr_index P _ _ _
    | exact pl_Instr_lookup P _ _ _ _
    | exact pl_Instr_mapUpdate P _ _ _ _
    | exact pl_Instr_mapEntry P _ _ _
    | exact pl_Instr_entryStore P _ _ _ _
    | exact pl_Instr_range P _ _
    | exact pl_Instr_next P _ _ _
    | exact pl_Instr_typeAssert P _ _ _ _
    | exact pl_Instr_extract P _ _
end Go.Proofs.Ytnahlemchajfdaa.Meta
namespace Go.Proofs.Ytnahlemchajfdaa.Meta
open Go Go.Conc

/-! What a step of a plain frame comes to. -/
def itemOk (S : FuncId → Bool) : Item → Prop
  | .code c | .inLoop c | .inScope c => codeOk S c = true
  | .inBlock _ => True
  | .inRegion ops _ => (ops.all fun o => opOk S o.op) = true
  | _ => False
structure FrOk (P : Program) (S : FuncId → Bool) (fr : Frame) : Prop where
  todo : ∀ it ∈ fr.todo, itemOk S it
  defers : fr.defers = []
  kind : fr.kind = .normal
  round : fr.roundOf = none
  mode : fr.mode = .run ∨ fr.mode = .returning
  fn : ∃ fn, P.funcs[fr.fn]? = some fn
  nr : Unready P

inductive Out where
  | next (fr : Frame) (w : World) (es : Array Event)
  | enter (f : FuncId) (args : Array Value) (w : World) (es : Array Event)
  | leave (v : Value) (w : World) (es : Array Event)
  | raise (chain : List PanicEntry) (fr : Frame) (w : World) (es : Array Event)
  | bad

def Out.world (w0 : World) : Out → World
  | .next _ w _ | .enter _ _ w _ | .leave _ w _ | .raise _ _ w _ => w
  | .bad => w0
def Out.es : Out → Array Event
  | .next _ _ es | .enter _ _ _ es | .leave _ _ es | .raise _ _ _ es => es
  | .bad => #[]

/-- The step in whatever company: with these callers, at this place of that tape. -/
def Gives (P : Program) (fr : Frame) (o : Out) (k : Nat) (s : GStep) (cs : List Frame) (τ : Nat → Question → Nat) (d : Nat) : Prop :=
  match o with
  | .next fr' w es => s = .go (G fr' cs) (wt w τ (d + k)) es
  | .enter f args w es => s = .go (G (Frame.enter P f args .normal) (fr :: cs)) (wt w τ (d + k)) es
  | .leave v w es => ∀ c rest, cs = c :: rest → s = .go (G (c.finish v) rest) (wt w τ (d + k)) es
  | .raise _ fr' w es => s = .go (G fr' cs) (wt w τ (d + k)) es
  | .bad => ∃ x w es, s = .ended x w es

def Agree (w : World) (k : Nat) (τ : Nat → Question → Nat) (d : Nat) : Prop := ∀ i q, i < k → τ (d + i) q = w.tape (w.drawn + i) q

structure OutOk (P : Program) (S : FuncId → Bool) (fr : Frame) (w : World) (k : Nat) (o : Out) : Prop where
  tape : o ≠ .bad → (o.world w).tape = w.tape
  drawn : o ≠ .bad → (o.world w).drawn = w.drawn + k
  grows : w.heap.size ≤ (o.world w).heap.size
  np : NPW (o.world w)
  os : (o.world w).os = w.os ∧ (o.world w).output = w.output
  evs : ∀ e ∈ o.es, EvOk (o.world w).heap.size e
  ok : match o with
    | .next fr' _ _ => FrOk P S fr' ∧ fr'.fn = fr.fn
    | .enter f _ _ _ => S f = true ∧ fr.mode = .run
    | .leave v w' _ => fr.mode = .returning
    | .raise chain fr' _ _ => fr'.mode = .panicking chain ∧ fr'.defers = [] ∧ ∃ fn, P.funcs[fr'.fn]? = some fn
    | .bad => True

theorem mem_fold {σ : Type} {f : σ → Event → σ} {kept : σ → Array Event} (hf : ∀ s e, ∀ x ∈ kept (f s e), x ∈ kept s ∨ x = e) : ∀ (l : List Event) (s : σ), ∀ x ∈ kept (l.foldl f s), x ∈ kept s ∨ x ∈ l := by
  intro l
  induction l with
  | nil => exact fun s x hx => .inl hx
  | cons y l ih =>
    intro s x hx
    rcases ih _ x hx with h | h
    · rcases hf s y x h with h | h
      · exact .inl h
      · exact .inr (h ▸ List.mem_cons_self)
    · exact .inr (List.mem_cons_of_mem _ h)
theorem mem_seen {P : Program} {fn : FuncId} {es : Array Event} : ∀ e ∈ seen P fn es, e ∈ es := by
  obtain ⟨l⟩ := es
  intro e he
  unfold seen at he
  dsimp only at he
  rw [← Array.foldl_toList] at he
  refine (mem_fold (kept := Prod.snd) (fun s y x hx => ?_) l _ e he).elim (fun h => by simp at h) fun h => by simpa using h
  obtain ⟨q, a⟩ := s
  dsimp only at hx
  split at hx
  · exact .inl hx
  · dsimp only at hx
    split at hx
    · exact .inl hx
    · exact (Array.mem_push.1 hx).imp id id
end Go.Proofs.Ytnahlemchajfdaa.Meta
namespace Go.Proofs.Ytnahlemchajfdaa.Meta
open Go Go.Conc

theorem wt_drawn (w : World) : wt w w.tape w.drawn = w := rfl

/-- An operation of a plain frame. -/
theorem apply_plain {S : FuncId → Bool} {P : Program} {s : Sem Next} (h : Pl P (NextOk S) s) {fr : Frame} (hf : FrOk P S fr) (hmode : fr.mode = .run)
    (hc : ∀ d r s k, fr.todo ≠ .call d true r s :: k) (hfin : ∀ v, FrOk P S (fr.finish v) ∧ (fr.finish v).fn = fr.fn) (w : World) (hw : NPW w) :
    ∃ k o, OutOk P S fr w k o ∧ ∀ cs τ d, Agree w k τ d → Gives P fr o k (stepG.apply P true fr cs none s (wt w τ d)) cs τ d := by
  obtain ⟨k, h1, h2, h3⟩ := run_local s h w #[]
  obtain ⟨n1, n2⟩ := run_np s h w #[] hw
  obtain ⟨e1, e2, e3, e4⟩ := run_events s h w #[]
  have hpost := run_post s h w #[]
  generalize hr : s.runT P w #[] = r at h1 h2 h3 n1 n2 e1 e2 e3 e4 hpost
  obtain ⟨res, es⟩ := r
  have hk : (fr.kind == CallKind.early) = false := by rw [hf.kind]; rfl
  have hev : ∀ e ∈ seen P fr.fn es, EvOk (Result.world res).heap.size e := fun e he => by
    rcases e4 e (mem_seen e he) with x | x
    · simp at x
    · exact x
  cases res with
  | ok n w' =>
    have hn := hpost n w' rfl
    cases n with
    | value v =>
      refine ⟨k, .next (fr.finish v) w' (seen P fr.fn es), ⟨fun _ => h1, fun _ => h2, e1, n1, ⟨e2, e3⟩, hev, hfin v⟩, fun cs τ d ha => ?_⟩
      have hh := h3 τ d ha
      simp only [Gives, stepG.apply, hh, rwt, if_true, hk, Bool.false_eq_true, if_false, GStep.after]
      simp [G]
    | skip =>
      refine ⟨k, .next (fr.finish undef) w' (seen P fr.fn es), ⟨fun _ => h1, fun _ => h2, e1, n1, ⟨e2, e3⟩, hev, hfin _⟩, fun cs τ d ha => ?_⟩
      have hh := h3 τ d ha
      simp only [Gives, stepG.apply, hh, rwt, if_true, hk, Bool.false_eq_true, if_false, GStep.after]
      simp [G]
    | enter f args =>
      refine ⟨k, .enter f args w' (seen P fr.fn es), ⟨fun _ => h1, fun _ => h2, e1, n1, ⟨e2, e3⟩, hev, hn, hmode⟩, fun cs τ d ha => ?_⟩
      have hh := h3 τ d ha
      simp only [Gives, stepG.apply, hh, rwt, if_true, hk, Bool.false_eq_true, if_false, GStep.after]
      simp only [G, Array.append_empty]
    | _ => exact hn.elim
  | halt x w' =>
    have hx := n2 x w' rfl
    cases x with
    | panic v =>
      refine ⟨k, .raise [{ v, recovered := false }] (fr.raise [{ v, recovered := false }]) w' (seen P fr.fn es), ⟨fun _ => h1, fun _ => h2, e1, n1, ⟨e2, e3⟩, hev, ?_⟩, fun cs τ d ha => ?_⟩
      · simp [Frame.raise, hmode, hf.defers, hf.fn]
      · have hh := h3 τ d ha
        simp only [Gives, stepG.apply, hh, rwt, if_true, hk, Bool.false_eq_true, if_false, GStep.after]
        simp [G]
    | unsupported u =>
      refine ⟨k, .bad, ⟨fun h => absurd rfl h, fun h => absurd rfl h, Nat.le_refl _, hw, ⟨rfl, rfl⟩, fun e he => by simp [Out.es] at he, trivial⟩, fun cs τ d ha => ?_⟩
      have hh := h3 τ d ha
      cases u <;> first
        | exact hx.elim
        | (simp only [Gives, stepG.apply, hh, rwt, if_true, hk, Bool.false_eq_true, if_false, GStep.after]; rw [early_bad hf.nr hx]; exact ⟨_, _, _, rfl⟩)
        | (simp only [Gives, stepG.apply, hh, rwt, if_true, hk, Bool.false_eq_true, if_false, GStep.after]; exact ⟨_, _, _, rfl⟩)
    | stuck y =>
      refine ⟨k, .bad, ⟨fun h => absurd rfl h, fun h => absurd rfl h, Nat.le_refl _, hw, ⟨rfl, rfl⟩, fun e he => by simp [Out.es] at he, trivial⟩, fun cs τ d ha => ?_⟩
      have hh := h3 τ d ha
      simp only [Gives, stepG.apply, hh, rwt, if_true, hk, Bool.false_eq_true, if_false, GStep.after]
      exact ⟨_, _, _, rfl⟩
    | _ => exact hx.elim
theorem pl_results {P : Program} (fn : Func) (tmps : Array Value) : Pl P T1 (results fn tmps) := by
  unfold results
  refine pl_bind (pl_mapM_array _ fun r => ?_) fun vs => ?_
  · split
    · exact trivial
    · exact pl_bind (pl_asAddr P _) fun a => pl_loadVar P _ _
  · exact trivial

theorem out_next {S : FuncId → Bool} {P : Program} {fr fr' : Frame} {w : World} (hw : NPW w) (h : FrOk P S fr') (hfn : fr'.fn = fr.fn) (he : ∀ main cs w, stepG P main (G fr cs) w = .go (G fr' cs) w #[]) :
    ∃ k o, OutOk P S fr w k o ∧ ∀ main cs τ d, Agree w k τ d → Gives P fr o k (stepG P main (G fr cs) (wt w τ d)) cs τ d :=
  ⟨0, .next fr' w #[], ⟨fun _ => rfl, fun _ => rfl, Nat.le_refl _, hw, ⟨rfl, rfl⟩, fun e he => by simp [Out.es] at he, h, hfn⟩, fun main cs τ d _ => he main cs _⟩
theorem out_bad {S : FuncId → Bool} {P : Program} {fr : Frame} {w : World} (hw : NPW w) (he : ∀ main cs w, ∃ x w' es, stepG P main (G fr cs) w = .ended x w' es) :
    ∃ k o, OutOk P S fr w k o ∧ ∀ main cs τ d, Agree w k τ d → Gives P fr o k (stepG P main (G fr cs) (wt w τ d)) cs τ d :=
  ⟨0, .bad, ⟨fun h => absurd rfl h, fun h => absurd rfl h, Nat.le_refl _, hw, ⟨rfl, rfl⟩, fun e he => by simp [Out.es] at he, trivial⟩, fun main cs τ d _ => he main cs _⟩

theorem mem_exitTo {id : Nat} : ∀ {k k' : List Item}, exitTo id k = some k' → ∀ it ∈ k', it ∈ k := by
  intro k
  induction k with
  | nil => intro k' h; cases h
  | cons x k ih =>
    intro k' h it hit
    unfold exitTo at h
    split at h
    · rename_i heq
      cases heq
      split at h
      · cases h; exact List.mem_cons_of_mem _ hit
      · exact List.mem_cons_of_mem _ (ih h it hit)
    · rename_i heq
      cases heq
      exact List.mem_cons_of_mem _ (ih h it hit)
    · rename_i heq; cases heq

theorem FrOk.with {P : Program} {S : FuncId → Bool} {fr : Frame} (h : FrOk P S fr) {todo : List Item} (ht : ∀ it ∈ todo, itemOk S it) : FrOk P S { fr with todo } :=
  ⟨ht, h.defers, h.kind, h.round, h.mode, h.fn, h.nr⟩
theorem FrOk.back {P : Program} {S : FuncId → Bool} {fr : Frame} (h : FrOk P S fr) : FrOk P S { fr with mode := .returning } :=
  ⟨h.todo, h.defers, h.kind, h.round, .inr rfl, h.fn, h.nr⟩
theorem FrOk.finish {P : Program} {S : FuncId → Bool} {fr : Frame} (h : FrOk P S fr) (v : Value) : FrOk P S (fr.finish v) ∧ (fr.finish v).fn = fr.fn := by
  obtain ⟨fn, tmps, todo, defers, mode, kind, round⟩ := fr
  obtain ⟨h1, h2, h3, h4, h5, h6, h7⟩ := h
  dsimp only at h1 h2 h3 h4 h5 h6 h7
  unfold Frame.finish
  cases todo with
  | nil => exact ⟨⟨h1, h2, h3, h4, h5, h6, h7⟩, rfl⟩
  | cons it k =>
    have hit := h1 it (by simp)
    have hk : ∀ x ∈ k, itemOk S x := fun x hx => h1 x (by simp [hx])
    cases it with
    | inRegion ops l =>
      cases l with
      | nil => exact ⟨⟨h1, h2, h3, h4, h5, h6, h7⟩, rfl⟩
      | cons i rest =>
        refine ⟨⟨fun x hx => ?_, h2, h3, h4, h5, h6, h7⟩, rfl⟩
        rcases List.mem_cons.1 hx with rfl | hx
        · exact hit
        · exact hk x hx
    | inRangeFunc l => exact hit.elim
    | endRangeFunc l => exact hit.elim
    | beginRound => exact hit.elim
    | call => exact hit.elim
    | extern => exact hit.elim
    | _ => exact ⟨⟨h1, h2, h3, h4, h5, h6, h7⟩, rfl⟩
end Go.Proofs.Ytnahlemchajfdaa.Meta
namespace Go.Proofs.Ytnahlemchajfdaa.Meta
open Go Go.Conc

/-- A STEP OF A PLAIN FRAME. -/
theorem step_plain {S : FuncId → Bool} {P : Program} (hS : Shut P S) {fr : Frame} (hf : FrOk P S fr) {w : World} (hw : NPW w) :
    ∃ k o, OutOk P S fr w k o ∧ ∀ main cs τ d, Agree w k τ d → Gives P fr o k (stepG P main (G fr cs) (wt w τ d)) cs τ d := by
  obtain ⟨fn, hfn⟩ := hf.fn
  rcases hf.mode with hm | hm
  · -- it runs
    have hst : ∀ main cs w, stepG P main (G fr cs) w = stepG.exec P main true fr cs none w := by
      intro main cs w
      simp [stepG, G, hm]
    cases ht : fr.todo with
    | nil =>
      exact out_next hw hf.back rfl fun main cs w => by rw [hst]; simp [stepG.exec, ht, hf.round, G]
    | cons it k =>
      have hit := hf.todo it (by rw [ht]; simp)
      have hk : ∀ x ∈ k, itemOk S x := fun x hx => hf.todo x (by rw [ht]; simp [hx])
      have to : ∀ todo, (∀ it ∈ todo, itemOk S it) → (∀ main cs w, stepG.exec P main true fr cs none w = .go (G { fr with todo } cs) w #[]) →
          ∃ k o, OutOk P S fr w k o ∧ ∀ main cs τ d, Agree w k τ d → Gives P fr o k (stepG P main (G fr cs) (wt w τ d)) cs τ d :=
        fun todo h1 h2 => out_next hw (hf.with h1) rfl fun main cs w => by rw [hst]; exact h2 main cs w
      cases it with
      | code c =>
        cases c with
        | skip => exact to k hk fun main cs w => by simp [stepG.exec, ht, G]
        | label l => exact to k hk fun main cs w => by simp [stepG.exec, ht, G]
        | ret => exact out_next hw hf.back rfl fun main cs w => by rw [hst]; simp [stepG.exec, ht, hf.round, G]
        | refuse y => exact out_bad hw fun main cs w => by rw [hst]; simp [stepG.exec, ht]
        | seq a b =>
          have hab : codeOk S a = true ∧ codeOk S b = true := by simpa [itemOk, codeOk] using hit
          exact to (.code a :: .code b :: k) (fun x hx => by
            rcases List.mem_cons.1 hx with rfl | hx
            · exact hab.1
            · rcases List.mem_cons.1 hx with rfl | hx
              · exact hab.2
              · exact hk x hx) fun main cs w => by simp [stepG.exec, ht, G]
        | cond c a b =>
          have hab : codeOk S a = true ∧ codeOk S b = true := by simpa [itemOk, codeOk] using hit
          cases hv : fr.eval c with
          | bool t =>
            exact to (.code (if t then a else b) :: k) (fun x hx => by
              rcases List.mem_cons.1 hx with rfl | hx
              · cases t
                · exact hab.2
                · exact hab.1
              · exact hk x hx) fun main cs w => by simp [stepG.exec, ht, G, hv]
          | _ => exact out_bad hw fun main cs w => by rw [hst]; simp [stepG.exec, ht, hv]
        | block id c =>
          have hc : codeOk S c = true := hit
          exact to (.code c :: .inBlock id :: k) (fun x hx => by
            rcases List.mem_cons.1 hx with rfl | hx
            · exact hc
            · rcases List.mem_cons.1 hx with rfl | hx
              · trivial
              · exact hk x hx) fun main cs w => by simp [stepG.exec, ht, G]
        | loop c =>
          have hc : codeOk S c = true := hit
          exact to (.code c :: .inLoop c :: k) (fun x hx => by
            rcases List.mem_cons.1 hx with rfl | hx
            · exact hc
            · rcases List.mem_cons.1 hx with rfl | hx
              · exact hc
              · exact hk x hx) fun main cs w => by simp [stepG.exec, ht, G]
        | scope c =>
          have hc : codeOk S c = true := hit
          exact to (.code c :: .inScope c :: k) (fun x hx => by
            rcases List.mem_cons.1 hx with rfl | hx
            · exact hc
            · rcases List.mem_cons.1 hx with rfl | hx
              · exact hc
              · exact hk x hx) fun main cs w => by simp [stepG.exec, ht, G]
        | exit id =>
          cases he : exitTo id k with
          | none => exact out_bad hw fun main cs w => by rw [hst]; simp [stepG.exec, ht, he, hf.round]
          | some k' => exact to k' (fun x hx => hk x (mem_exitTo he x hx)) fun main cs w => by simp [stepG.exec, ht, G, he]
        | goto l => exact Bool.noConfusion (show false = true from hit)
        | rangeFunc => exact Bool.noConfusion (show false = true from hit)
        | region id ops draw =>
          have hr : ∀ l, ∀ x ∈ Item.inRegion ops l :: k, itemOk S x := fun l x hx => by
            rcases List.mem_cons.1 hx with rfl | hx
            · exact hit
            · exact hk x hx
          cases draw with
          | false => exact to (.inRegion ops (List.range ops.size) :: k) (hr _) fun main cs w => by simp [stepG.exec, ht, G]
          | true =>
            by_cases hq : (Question.order fr.fn id).forced = true
            · exact to (.inRegion ops (Region.schedule (P.follows .mixedOrders) ops 0) :: k) (hr _) fun main cs w => by
                simp [stepG.exec, ht, G, choose, Sem.run, hq]
            · refine ⟨1, .next { fr with todo := .inRegion ops (Region.schedule (P.follows .mixedOrders) ops ((Question.order fr.fn id).cut (w.tape w.drawn (.order fr.fn id)))) :: k } { w with drawn := w.drawn + 1 } #[],
                ⟨fun _ => rfl, fun _ => rfl, Nat.le_refl _, hw.eq rfl, ⟨rfl, rfl⟩, fun e he => by simp [Out.es] at he, hf.with (hr _), rfl⟩, fun main cs τ d ha => ?_⟩
              have h0 := ha 0 (.order fr.fn id) (by omega)
              simp only [Nat.add_zero] at h0
              rw [hst]
              simp [Gives, stepG.exec, ht, G, choose, Sem.run, hq, wt, h0]
      | inBlock id => exact to k hk fun main cs w => by simp [stepG.exec, ht, G]
      | inScope c => exact to k hk fun main cs w => by simp [stepG.exec, ht, G]
      | inLoop c =>
        have hc : codeOk S c = true := hit
        exact to (.code c :: .inLoop c :: k) (fun x hx => by
          rcases List.mem_cons.1 hx with rfl | hx
          · exact hc
          · rcases List.mem_cons.1 hx with rfl | hx
            · exact hc
            · exact hk x hx) fun main cs w => by simp [stepG.exec, ht, G]
      | inRegion ops l =>
        cases l with
        | nil => exact to k hk fun main cs w => by simp [stepG.exec, ht, G]
        | cons i rest =>
          by_cases hwant : ((ops[i]?).map (Region.wanted · (yielded ops fr.tmps))).getD false = true
          · cases ho : ops[i]? with
            | none => rw [ho] at hwant; simp at hwant
            | some o =>
              have hok : opOk S o.op = true := by
                have := Array.all_eq_true.1 hit i (Array.getElem?_eq_some_iff.1 ho).1
                rw [(Array.getElem?_eq_some_iff.1 ho).2] at this
                exact this
              obtain ⟨n, out, h1, h2⟩ := apply_plain (pl_execOp (P := P) hS.2 fr.eval (fun f => rfl) o hok) hf hm (fun d r s k' e => by rw [ht] at e; cases e) (fun v => hf.finish v) w hw
              refine ⟨n, out, h1, fun main cs τ d ha => ?_⟩
              have h3 := h2 cs τ d ha
              rw [hst]
              have e : stepG.exec P main true fr cs none (wt w τ d) = stepG.apply P true fr cs none (execOp fr.eval o) (wt w τ d) := by
                have hop : fr.oper? = some o := by simp [Frame.oper?, ht, ho]
                rw [ho] at hwant
                simp [stepG.exec, ht, ho, stepG.oper, hop, hf.round] at hwant ⊢
                intro h; rw [hwant] at h; cases h
              rw [e]; exact h3
          · exact out_next hw (hf.finish undef).1 (hf.finish undef).2 fun main cs w => by
              rw [hst]
              simp [stepG.exec, ht, hwant, G]
      | _ => exact hit.elim
  · -- it returns
    obtain ⟨k, h1, h2, h3⟩ := run_local (results fn fr.tmps) (pl_results fn fr.tmps) w #[]
    obtain ⟨n1, n2⟩ := run_np (results fn fr.tmps) (pl_results (P := P) fn fr.tmps) w #[] hw
    obtain ⟨e1, e2, e3, e4⟩ := run_events (results fn fr.tmps) (pl_results (P := P) fn fr.tmps) w #[]
    generalize hr : (results fn fr.tmps).runT P w #[] = r at h1 h2 h3 n1 n2 e1 e2 e3 e4
    obtain ⟨res, es⟩ := r
    have hev : ∀ e ∈ seen P fr.fn es, EvOk (Result.world res).heap.size e := fun e he => by
      rcases e4 e (mem_seen e he) with x | x
      · simp at x
      · exact x
    have hun : ∀ main cs w, stepG P main (G fr cs) w = unwind P main fr cs none w := by
      intro main cs w
      simp [stepG, G, hm]
    cases res with
    | ok v w' =>
      refine ⟨k, .leave v w' (seen P fr.fn es), ⟨fun _ => h1, fun _ => h2, e1, n1, ⟨e2, e3⟩, hev, hm⟩, fun main cs τ d ha c rest hcs => ?_⟩
      have hh := h3 τ d ha
      subst hcs
      rw [hun]
      unfold unwind
      simp only [hf.defers, hm, hfn, hh, rwt, GStep.after, doReturn, hf.kind, G, Array.append_empty]
    | halt x w' =>
      have hx := n2 x w' rfl
      refine ⟨k, .bad, ⟨fun h => absurd rfl h, fun h => absurd rfl h, Nat.le_refl _, hw, ⟨rfl, rfl⟩, fun e he => by simp [Out.es] at he, trivial⟩, fun main cs τ d ha => ?_⟩
      have hh := h3 τ d ha
      rw [hun]
      cases x <;> first
        | exact hx.elim
        | (unfold unwind; simp only [Gives, hf.defers, hm, hfn, hh, rwt, GStep.after]; exact ⟨_, _, _, rfl⟩)
end Go.Proofs.Ytnahlemchajfdaa.Meta
namespace Go.Proofs.Ytnahlemchajfdaa.Meta
open Go Go.Conc

/-- A walk in company that ends on whatever tape (no bound on its steps). -/
inductive GoesW (P : Program) (main : Bool) (D : World → World → Array Event → Prop) (Stop : Goroutine → World → Prop) : Goroutine → World → Prop
  | stop {g : Goroutine} {w : World} : (∀ d, Stop g (w.at d)) → GoesW P main D Stop g w
  | step {g : Goroutine} {w : World} (g' : Nat → Goroutine) (w' : Nat → World) (es : Nat → Array Event) : g.status = .running →
      (∀ d, stepG P main g (w.at d) = .go (g' d) (w' d) (es d) ∧ D (w.at d) (w' d) (es d)) → (∀ d, GoesW P main D Stop (g' d) (w' d)) → GoesW P main D Stop g w

section
variable {P : Program} {main : Bool} {D : World → World → Array Event → Prop} {Stop : Goroutine → World → Prop}
theorem GoesW.of {g : Goroutine} {w : World} (hr : g.status = .running) (h : ∀ d, ∃ g' w' es, stepG P main g (w.at d) = .go g' w' es ∧ D (w.at d) w' es ∧ GoesW P main D Stop g' w') : GoesW P main D Stop g w := by
  exact .step (fun d => (h d).choose) (fun d => (h d).choose_spec.choose) (fun d => (h d).choose_spec.choose_spec.choose) hr
    (fun d => ⟨(h d).choose_spec.choose_spec.choose_spec.1, (h d).choose_spec.choose_spec.choose_spec.2.1⟩) (fun d => (h d).choose_spec.choose_spec.choose_spec.2.2)
theorem GoesW.at {g : Goroutine} {w : World} (h : GoesW P main D Stop g w) (d : Nat) : GoesW P main D Stop g (w.at d) := by
  cases h with
  | stop h => exact .stop fun d' => h d'
  | step g' w' es hr h1 h2 => exact .step g' w' es hr (fun d' => h1 d') h2
end

theorem at_wt (w : World) (d : Nat) : w.at d = wt w w.tape d := rfl

/-- The frame below: whoever comes back to it ends the run. -/
def c0 : Frame := { fn := 0, tmps := #[], todo := [], defers := [{ target := .nil, args := #[] }], mode := .panicking [], kind := .normal }

theorem runN_ended {P : Program} {m : Machine} {o : Outcome} {w : World} (h : step P m = .ended o w) : ∀ n m', runN P (n + 1) m ≠ .next m' := by
  intro n m' e
  simp only [runN, h] at e
  cases e

theorem step_of_go {P : Program} {fr fr' : Frame} {cs cs' : List Frame} {w w' : World} {es : Array Event} (h : stepG P true (G fr cs) w = .go (G fr' cs') w' es) : step P (lone fr cs w) = .next (lone fr' cs' w') :=
  step_lone_go (by
    show (stepG P true (G fr cs) w).bare = _
    rw [h]; rfl)
theorem step_of_ended {P : Program} {fr : Frame} {cs : List Frame} {w w' : World} {o : Outcome} {es : Array Event} (h : stepG P true (G fr cs) w = .ended o w' es) : step P (lone fr cs w) = .ended o w' :=
  step_lone_ended (by
    show (stepG P true (G fr cs) w).bare = _
    rw [h]; rfl)

/-- It never stands at a return with these callers. -/
def Doomed (P : Program) (m : Machine) : Prop := ∀ n fr w, (∀ ch, fr.mode ≠ .panicking ch) → runN P n m ≠ .next (lone fr [c0] w)

theorem lone_inj {fr fr' : Frame} {cs cs' : List Frame} {w w' : World} (h : lone fr cs w = lone fr' cs' w') : fr = fr' ∧ cs = cs' ∧ w = w' := by
  unfold lone at h
  injection h with h1 h2 h3
  simp at h2
  exact ⟨h2.1, h2.2, h1⟩

theorem doomed_ended {P : Program} {fr : Frame} {cs : List Frame} {w w' : World} {o : Outcome} (h : step P (lone fr cs w) = .ended o w') (hm : (∃ ch, fr.mode = .panicking ch) ∨ cs ≠ [c0]) : Doomed P (lone fr cs w) := by
  intro n fr' w1 hr e
  cases n with
  | zero =>
    simp only [runN] at e
    injection e with e
    obtain ⟨rfl, rfl, rfl⟩ := lone_inj e
    rcases hm with h | h
    · obtain ⟨ch, h⟩ := h; exact hr ch h
    · exact h rfl
  | succ n => exact runN_ended h n _ e
theorem doomed_step {P : Program} {fr : Frame} {cs : List Frame} {w : World} {m : Machine} (h : step P (lone fr cs w) = .next m) (hm : (∃ ch, fr.mode = .panicking ch) ∨ cs ≠ [c0]) (hd : Doomed P m) : Doomed P (lone fr cs w) := by
  intro n fr' w1 hr e
  cases n with
  | zero =>
    simp only [runN] at e
    injection e with e
    obtain ⟨rfl, rfl, rfl⟩ := lone_inj e
    rcases hm with h | h
    · obtain ⟨ch, h⟩ := h; exact hr ch h
    · exact h rfl
  | succ n =>
    simp only [runN, h] at e
    exact hd n fr' w1 hr e

theorem doomed_c0 {P : Program} {fr : Frame} {w : World} (chain : List PanicEntry) (hm : fr.mode = .panicking chain) (hd : fr.defers = [{ target := .nil, args := #[] }]) : Doomed P (lone fr [] w) := by
  refine doomed_ended (o := .unsupported (.noEntry "machine/Return: a deferred call of a nil function value, made while the frame is unwinding") ({ fr with defers := [] }.pos P)) (w' := w) ?_ (.inl ⟨_, hm⟩)
  refine step_lone_ended ?_
  simp [stepG, unwind, hm, hd, callDeferred]

theorem doomed_panic {S : FuncId → Bool} {P : Program} : ∀ (mid : List Frame) (fr : Frame) (chain : List PanicEntry) (w : World), (∀ x ∈ mid, FrOk P S x) → fr.mode = .panicking chain → fr.defers = [] → (∃ fn, P.funcs[fr.fn]? = some fn) → Doomed P (lone fr (mid ++ [c0]) w) := by
  intro mid
  induction mid with
  | nil =>
    intro fr chain w _ hm hd hf
    obtain ⟨fn, hfn⟩ := hf
    refine doomed_step (m := lone (c0.raise chain) [] w) (step_lone_go ?_) (.inl ⟨_, hm⟩) (doomed_c0 (chain ++ []) (by simp [Frame.raise, c0]) (by simp [Frame.raise, c0]))
    simp [stepG, unwind, hm, hd, Frame.catches, hfn]
  | cons x mid ih =>
    intro fr chain w hmid hm hd hf
    obtain ⟨fn, hfn⟩ := hf
    have hx := hmid x (by simp)
    refine doomed_step (m := lone (x.raise chain) (mid ++ [c0]) w) (step_lone_go ?_) (.inl ⟨_, hm⟩) (ih _ chain w (fun y hy => hmid y (by simp [hy])) ?_ ?_ ?_)
    · simp [stepG, unwind, hm, hd, Frame.catches, hfn]
    · rcases hx.mode with h | h <;> simp [Frame.raise, h]
    · rcases hx.mode with h | h <;> simp [Frame.raise, h, hx.defers]
    · rcases hx.mode with h | h <;> simp [Frame.raise, h, hx.fn]
end Go.Proofs.Ytnahlemchajfdaa.Meta
namespace Go.Proofs.Ytnahlemchajfdaa.Meta
open Go Go.Conc

/-- What a plain step leaves of the world, and what it lists. -/
def DP (w w' : World) (es : Array Event) : Prop :=
  w.heap.size ≤ w'.heap.size ∧ w'.tape = w.tape ∧ w'.os = w.os ∧ w'.output = w.output ∧ ∀ e ∈ es, EvOk w'.heap.size e

structure St where
  fr : Frame
  mid : List Frame
  w : World

def St.nx (P : Program) (s : St) : Out → Option St
  | .next fr' w' _ => some ⟨fr', s.mid, w'⟩
  | .enter f a w' _ => some ⟨Frame.enter P f a .normal, s.fr :: s.mid, w'⟩
  | .leave v w' _ => match s.mid with
    | m :: ms => some ⟨m.finish v, ms, w'⟩
    | [] => none
  | .raise .. | .bad => none

section
variable (P : Program) (S : FuncId → Bool) (main : Bool) (Stop : Goroutine → World → Prop) (T : Nat → Question → Nat) (cs0 : List Frame)

structure Bad (s : St) : Prop where
  fr : FrOk P S s.fr
  mid : ∀ x ∈ s.mid, FrOk P S x
  np : NPW s.w
  tape : s.w.tape = T
  not : ¬ GoesW P main DP Stop (G s.fr (s.mid ++ cs0)) s.w

structure Dk (s : St) (x : Nat × Nat × Out) : Prop where
  out : OutOk P S s.fr (s.w.at x.1) x.2.1 x.2.2
  gives : ∀ main cs τ d, Agree (s.w.at x.1) x.2.1 τ d → Gives P s.fr x.2.2 x.2.1 (stepG P main (G s.fr cs) (wt (s.w.at x.1) τ d)) cs τ d
  not : ¬ ∃ g' w' es, stepG P main (G s.fr (s.mid ++ cs0)) (s.w.at x.1) = .go g' w' es ∧ DP (s.w.at x.1) w' es ∧ GoesW P main DP Stop g' w'
end

section
variable {P : Program} {S : FuncId → Bool} {main : Bool} {Stop : Goroutine → World → Prop} {T : Nat → Question → Nat} {cs0 : List Frame}

theorem enter_ok (hS : Shut P S) {f : FuncId} (hf : S f = true) (a : Array Value) : FrOk P S (Frame.enter P f a .normal) := by
  obtain ⟨fn, c, hfn, _, hb, hc⟩ := hS.2 f hf
  refine ⟨fun it hit => ?_, rfl, rfl, rfl, .inl rfl, ⟨fn, hfn⟩, hS.1⟩
  simp [Frame.enter, hfn, hb] at hit
  subst hit
  exact hc

theorem Bad.dk (hS : Shut P S) {s : St} (h : Bad P S main Stop T cs0 s) : ∃ x, Dk P S main Stop cs0 s x := by
  have : ∃ d, ¬ ∃ g' w' es, stepG P main (G s.fr (s.mid ++ cs0)) (s.w.at d) = .go g' w' es ∧ DP (s.w.at d) w' es ∧ GoesW P main DP Stop g' w' := by
    refine Classical.byContradiction fun hn => h.not (GoesW.of rfl fun d => ?_)
    exact Classical.byContradiction fun hd => hn ⟨d, hd⟩
  obtain ⟨d, hd⟩ := this
  obtain ⟨k, o, h1, h2⟩ := step_plain hS h.fr (w := s.w.at d) (h.np.eq rfl)
  exact ⟨(d, k, o), h1, h2, hd⟩

theorem wt_self {w : World} {τ : Nat → Question → Nat} {d : Nat} (h1 : w.tape = τ) (h2 : w.drawn = d) : wt w τ d = w := by
  subst h1 h2; rfl

theorem Bad.next (hS : Shut P S) {s s' : St} (h : Bad P S main Stop T cs0 s) {x : Nat × Nat × Out} (hx : Dk P S main Stop cs0 s x) (hn : s.nx P x.2.2 = some s') : Bad P S main Stop T cs0 s' := by
  obtain ⟨d, k, o⟩ := x
  obtain ⟨ho, hg, hnot⟩ := hx
  dsimp only at ho hg hnot hn
  have hT : (s.w.at d).tape = T := h.tape
  have hgg := hg main (s.mid ++ cs0) T d (fun i q _ => by rw [hT]; rfl)
  have hwat : wt (s.w.at d) T d = s.w.at d := wt_self h.tape rfl
  rw [hwat] at hgg
  have hnp := ho.np
  cases o with
  | next fr' w' es =>
    cases hn
    have e1 := ho.tape (by simp)
    have e2 := ho.drawn (by simp)
    have hw : wt w' T (d + k) = w' := wt_self (e1.trans hT) e2
    simp only [Gives, hw] at hgg
    exact ⟨ho.ok.1, h.mid, hnp, e1.trans hT, fun hgo => hnot ⟨_, _, _, hgg, ⟨ho.grows, e1, ho.os.1, ho.os.2, ho.evs⟩, hgo⟩⟩
  | enter f a w' es =>
    cases hn
    have e1 := ho.tape (by simp)
    have e2 := ho.drawn (by simp)
    have hw : wt w' T (d + k) = w' := wt_self (e1.trans hT) e2
    simp only [Gives, hw] at hgg
    refine ⟨enter_ok hS ho.ok.1 a, fun x hx => ?_, hnp, e1.trans hT, fun hgo => hnot ⟨_, _, _, hgg, ⟨ho.grows, e1, ho.os.1, ho.os.2, ho.evs⟩, hgo⟩⟩
    rcases List.mem_cons.1 hx with rfl | hx
    · exact h.fr
    · exact h.mid x hx
  | leave v w' es =>
    have e1 := ho.tape (by simp)
    have e2 := ho.drawn (by simp)
    have hw : wt w' T (d + k) = w' := wt_self (e1.trans hT) e2
    obtain ⟨fr, mid, w⟩ := s
    cases mid with
    | nil => cases hn
    | cons m ms =>
      cases hn
      have hgg' := hgg m (ms ++ cs0) rfl
      rw [hw] at hgg'
      exact ⟨((h.mid m (by simp)).finish v).1, fun x hx => h.mid x (by simp [hx]), hnp, e1.trans hT, fun hgo => hnot ⟨_, _, _, hgg', ⟨ho.grows, e1, ho.os.1, ho.os.2, ho.evs⟩, hgo⟩⟩
  | raise ch fr' w' es => cases hn
  | bad => cases hn

/-- WHAT A LONE RUN DOES ON WHATEVER TAPE, A GOROUTINE DOES IN WHATEVER COMPANY THAT TURNS NOTHING BUT THE COUNT OF DRAWS. -/
theorem lift_fr (hS : Shut P S) {fr0 : Frame} (hfr0 : FrOk P S fr0) {w0 : World} (hnp : NPW w0) {Post : Value → World → Prop}
    (hpost : ∀ v w τ d, Post v w → Post v (wt w τ d))
    (hlone : ∀ τ, ∃ v w' fr', Post v w' ∧ (∃ N, runN P N (lone fr0 [c0] (wt w0 τ 0)) = .next (lone fr' [c0] w')) ∧ fr'.leaving P w' (.returned v))
    (hnext : ∀ v fr' w', Post v w' → NPW w' → (∀ τ d, fr'.leaving P (wt w' τ d) (.returned v)) → GoesW P main DP Stop (G fr' cs0) w') :
    GoesW P main DP Stop (G fr0 cs0) w0 := by
  refine Classical.byContradiction fun hnot => ?_
  let T := w0.tape
  let s0 : St := ⟨fr0, [], w0⟩
  have b0 : Bad P S main Stop T cs0 s0 := ⟨hfr0, fun x hx => by simp [s0] at hx, hnp, rfl, hnot⟩
  have hdk : ∀ s : St, ∃ x, Bad P S main Stop T cs0 s → Dk P S main Stop cs0 s x := by
    intro s
    by_cases h : Bad P S main Stop T cs0 s
    · obtain ⟨x, hx⟩ := h.dk hS
      exact ⟨x, fun _ => hx⟩
    · exact ⟨(0, 0, .bad), fun h' => absurd h' h⟩
  let dk : St → Nat × Nat × Out := fun s => (hdk s).choose
  have hdk' : ∀ s, Bad P S main Stop T cs0 s → Dk P S main Stop cs0 s (dk s) := fun s => (hdk s).choose_spec
  let seq : Nat → Option St := fun n => Nat.rec (some s0) (fun _ o => o.bind fun s => s.nx P (dk s).2.2) n
  have seq0 : seq 0 = some s0 := rfl
  have seqS : ∀ n, seq (n + 1) = (seq n).bind fun s => s.nx P (dk s).2.2 := fun n => rfl
  have hbad : ∀ n s, seq n = some s → Bad P S main Stop T cs0 s := by
    intro n
    induction n with
    | zero => intro s h; rw [seq0] at h; cases h; exact b0
    | succ n ih =>
      intro s' h
      rw [seqS] at h
      obtain ⟨s, hs, hn⟩ := Option.bind_eq_some_iff.1 h
      exact (ih s hs).next hS (hdk' s (ih s hs)) hn
  let kk : Nat → Nat := fun n => match seq n with | some s => (dk s).2.1 | none => 0
  let dd : Nat → Nat := fun n => match seq n with | some s => (dk s).1 | none => 0
  let e : Nat → Nat := fun n => Nat.rec 0 (fun i x => x + kk i) n
  have eS : ∀ n, e (n + 1) = e n + kk n := fun n => rfl
  have emono : ∀ a b, a ≤ b → e a ≤ e b := by
    intro a b h
    induction h with
    | refl => exact Nat.le_refl _
    | step _ ih => rw [eS]; omega
  let τ : Nat → Question → Nat := fun p q => @dite Nat (∃ i, e i ≤ p ∧ p < e (i + 1)) (Classical.propDecidable _) (fun h => T (dd h.choose + (p - e h.choose)) q) (fun _ => 0)
  have hτ : ∀ i j q, j < kk i → τ (e i + j) q = T (dd i + j) q := by
    intro i j q hj
    have hex : ∃ i', e i' ≤ e i + j ∧ e i + j < e (i' + 1) := ⟨i, by omega, by rw [eS]; omega⟩
    have hch := hex.choose_spec
    have hi : hex.choose = i := by
      rcases Nat.lt_trichotomy hex.choose i with h | h | h
      · have := emono (hex.choose + 1) i (by omega)
        have := hch.2
        omega
      · exact h
      · have h5 := emono (i + 1) hex.choose (by omega)
        have h6 := hch.1
        rw [eS] at h5
        omega
    have h7 : τ (e i + j) q = T (dd hex.choose + (e i + j - e hex.choose)) q := @dif_pos _ (Classical.propDecidable _) hex _ _ _
    rw [h7, hi]
    congr 1
    omega
  -- the lone run on that tape
  let m0 : Machine := lone fr0 [c0] (wt w0 τ 0)
  have hag : ∀ n s, seq n = some s → Agree (s.w.at (dk s).1) (dk s).2.1 τ (e n) := by
    intro n s hs i q hi
    have hk : kk n = (dk s).2.1 := by simp only [kk, hs]
    have hd : dd n = (dk s).1 := by simp only [dd, hs]
    rw [hτ n i q (by rw [hk]; exact hi), hd]
    show T _ q = s.w.tape _ q
    rw [(hbad n s hs).tape]
    rfl
  have hrun : ∀ n s, seq n = some s → runN P n m0 = .next (lone s.fr (s.mid ++ [c0]) (wt s.w τ (e n))) := by
    intro n
    induction n with
    | zero => intro s h; rw [seq0] at h; cases h; rfl
    | succ n ih =>
      intro s' h
      rw [seqS] at h
      obtain ⟨s, hs, hn⟩ := Option.bind_eq_some_iff.1 h
      have hx := hdk' s (hbad n s hs)
      have hg := hx.gives true (s.mid ++ [c0]) τ (e n) (hag n s hs)
      have hk : kk n = (dk s).2.1 := by simp only [kk, hs]
      rw [runN_add, ih s hs]
      have fin : step P (lone s.fr (s.mid ++ [c0]) (wt s.w τ (e n))) = .next (lone s'.fr (s'.mid ++ [c0]) (wt s'.w τ (e (n + 1)))) := by
        rw [eS, hk]
        generalize (dk s) = x at hg hn
        obtain ⟨d, k, o⟩ := x
        obtain ⟨fr, mid, w⟩ := s
        cases o with
        | next fr' w' es => cases hn; exact step_of_go hg
        | enter f a w' es => cases hn; exact step_of_go hg
        | leave v w' es =>
          cases mid with
          | nil => cases hn
          | cons m ms => cases hn; exact step_of_go (hg m (ms ++ [c0]) rfl)
        | raise ch fr' w' es => cases hn
        | bad => cases hn
      simp only [runN, fin]
  obtain ⟨v, w1, fr1, hP, ⟨N, hN⟩, hleave⟩ := hlone τ
  have hN' : runN P N m0 = .next (lone fr1 [c0] w1) := hN
  have hm1 : fr1.mode = .returning := hleave.1
  cases hsN : seq N with
  | some s =>
    -- it stands at the return in company too
    have hr := hrun N s hsN
    rw [hN'] at hr
    injection hr with hr
    obtain ⟨rfl, hmid, rfl⟩ := lone_inj hr
    have hmid0 : s.mid = [] := by
      cases hm : s.mid with
      | nil => rfl
      | cons a b => rw [hm] at hmid; simp at hmid
    have hb := hbad N s hsN
    obtain ⟨hl1, hdef, hkind, fn, hfn, hres⟩ := hleave
    obtain ⟨k, h1, h2, h3⟩ := run_local (results fn s.fr.tmps) (pl_results (P := P) fn s.fr.tmps) (wt s.w τ (e N)) #[]
    have hT1 : ((results fn s.fr.tmps).runT P (wt s.w τ (e N)) #[]).1 = .ok v (wt s.w τ (e N)) := by
      rw [Sem.runT_eq]; exact hres
    rw [hT1] at h1 h2
    have hk0 : k = 0 := by
      have : (wt s.w τ (e N)).drawn = (wt s.w τ (e N)).drawn + k := h2
      omega
    subst hk0
    refine hb.not ?_
    rw [hmid0]
    refine hnext v s.fr s.w (hpost v (wt s.w τ (e N)) s.w.tape s.w.drawn hP) hb.np fun τ' d' => ⟨hl1, hdef, hkind, fn, hfn, ?_⟩
    have h4 := h3 τ' d' (fun i q hi => by omega)
    have h5 : ((results fn s.fr.tmps).runT P (wt (wt s.w τ (e N)) τ' d') #[]).1 = .ok v (wt (wt s.w τ (e N)) τ' d') := by
      have h6 := congrArg Prod.fst h4
      rw [h6]
      generalize hq : (results fn s.fr.tmps).runT P (wt s.w τ (e N)) #[] = r at hT1
      obtain ⟨r1, r2⟩ := r
      dsimp only at hT1
      subst hT1
      rfl
    rw [Sem.runT_eq] at h5
    exact h5
  | none =>
    have hlast : ∀ n, seq n = none → ∃ i s, i < n ∧ seq i = some s ∧ s.nx P (dk s).2.2 = none := by
      intro n
      induction n with
      | zero => intro h; rw [seq0] at h; cases h
      | succ n ih =>
        intro h
        cases hs : seq n with
        | none => obtain ⟨i, s, hi, h'⟩ := ih hs; exact ⟨i, s, by omega, h'⟩
        | some s =>
          rw [seqS, hs] at h
          exact ⟨n, s, by omega, hs, h⟩
    obtain ⟨i, s, hi, hs, hn⟩ := hlast N hsN
    have hr := hrun i s hs
    have hb := hbad i s hs
    have hx := hdk' s hb
    have hg := hx.gives true (s.mid ++ [c0]) τ (e i) (hag i s hs)
    have ho := hx.out
    obtain ⟨r, rfl⟩ : ∃ r, N = i + (r + 1) := ⟨N - i - 1, by omega⟩
    rw [runN_add, hr] at hN'
    dsimp only at hN'
    generalize (dk s) = x at hg hn ho
    obtain ⟨d, k, o⟩ := x
    cases o with
    | next fr' w' es => cases hn
    | enter f a w' es => cases hn
    | leave v' w' es =>
      obtain ⟨fr, mid, w⟩ := s
      cases mid with
      | cons m ms => cases hn
      | nil =>
        have hst : step P (lone fr ([] ++ [c0]) (wt w τ (e i))) = .next (lone (c0.finish v') [] _) := step_of_go (hg c0 [] rfl)
        simp only [runN, hst] at hN'
        exact doomed_c0 [] rfl rfl r fr1 w1 (by rw [hm1]; simp) hN'
    | raise ch fr' w' es =>
      have hst := step_of_go hg
      have hst' : step P (lone s.fr (s.mid ++ [c0]) (wt s.w τ (e i))) = _ := hst
      simp only [runN, hst'] at hN'
      exact doomed_panic s.mid fr' ch _ hb.mid ho.ok.1 ho.ok.2.1 ho.ok.2.2 r fr1 w1 (by rw [hm1]; simp) hN'
    | bad =>
      obtain ⟨y, w2, es, hy⟩ := hg
      exact runN_ended (step_of_ended hy) r _ hN'

/-- The return to a caller. -/
theorem goesW_leave {fr c : Frame} {rest : List Frame} {w : World} {v : Value} (hl : ∀ d, fr.leaving P (w.at d) (.returned v)) (hg : GoesW P main DP Stop (G (c.finish v) rest) w) : GoesW P main DP Stop (G fr (c :: rest)) w := by
  refine .of rfl fun d => ?_
  obtain ⟨hm, hdef, hkind, fn, hfn, hres⟩ := hl d
  obtain ⟨e1, e2, e3, e4⟩ := run_events (results fn fr.tmps) (pl_results (P := P) fn fr.tmps) (w.at d) #[]
  have hT : ((results fn fr.tmps).runT P (w.at d) #[]).1 = .ok v (w.at d) := by rw [Sem.runT_eq]; exact hres
  generalize hq : (results fn fr.tmps).runT P (w.at d) #[] = r at hT e4
  obtain ⟨r1, es⟩ := r
  dsimp only at hT e4
  subst hT
  refine ⟨_, w.at d, seen P fr.fn es, ?_, ⟨Nat.le_refl _, rfl, rfl, rfl, fun x hx => ?_⟩, hg.at d⟩
  · have hun : stepG P main (G fr (c :: rest)) (w.at d) = unwind P main fr (c :: rest) none (w.at d) := by simp [stepG, G, hm]
    rw [hun]
    unfold unwind
    simp only [hdef, hm, hfn, hq, GStep.after, doReturn, hkind, G, Array.append_empty]
  · rcases e4 x (mem_seen x hx) with y | y
    · simp at y
    · exact y

theorem lift (hS : Shut P S) {f : FuncId} (hf : S f = true) {args : Array Value} {c : Frame} {rest : List Frame} {w0 : World} (hnp : NPW w0) {Post : Value → World → Prop}
    (hpost : ∀ v w τ d, Post v w → Post v (wt w τ d))
    (hlone : ∀ τ, Calls P f args (wt w0 τ 0) fun e w' => ∃ v, e = .returned v ∧ Post v w')
    (hnext : ∀ v w', Post v w' → NPW w' → GoesW P main DP Stop (G (c.finish v) rest) w') :
    GoesW P main DP Stop (G (Frame.enter P f args .normal) (c :: rest)) w0 := by
  refine lift_fr hS (enter_ok hS hf args) hnp hpost (fun τ => ?_) fun v fr' w' hP hn hl => ?_
  · obtain ⟨en, w1, fr1, ⟨v, rfl, hP⟩, hcomes, hfr1, hleave⟩ := hlone τ [c0]
    obtain ⟨N, hN⟩ := hcomes
    exact ⟨v, w1, fr1, hP, ⟨N, hN⟩, hleave⟩
  · exact goesW_leave (fun d => hl w'.tape d) (hnext v w' hP hn)
end
end Go.Proofs.Ytnahlemchajfdaa.Meta
namespace Go.Proofs.Ytnahlemchajfdaa.Meta
open Go Go.Conc

def funOk (P : Program) (S : FuncId → Bool) (f : FuncId) : Bool :=
  match P.funcs[f]? with
  | some fn => !(fn.name == "runtime.NumGoroutine") && (match fn.body with | some c => codeOk S c | none => false)
  | none => false
/-- The functions of the list that call none but those of the list, n times over. -/
def sieve (P : Program) : Nat → List FuncId → List FuncId
  | 0, l => l
  | n + 1, l => sieve P n (l.filter (funOk P (fun f => l.contains f)))
def shutB (P : Program) (l : List FuncId) : Bool := unreadyB P && l.all (funOk P (fun f => l.contains f))

theorem shut_of {P : Program} {l : List FuncId} (h : shutB P l = true) : Shut P (fun f => l.contains f) := by
  unfold shutB at h
  rw [Bool.and_eq_true] at h
  refine ⟨unready_of h.1, ?_⟩
  intro f hf
  have hf' := List.all_eq_true.1 h.2 f (by simpa using hf)
  unfold funOk at hf'
  cases hfn : P.funcs[f]? with
  | none => rw [hfn] at hf'; cases hf'
  | some fn =>
    rw [hfn] at hf'
    simp only [Bool.and_eq_true, Bool.not_eq_true'] at hf'
    cases hb : fn.body with
    | none => rw [hb] at hf'; cases hf'.2
    | some c =>
      rw [hb] at hf'
      exact ⟨fn, c, rfl, hf'.1, hb, hf'.2⟩
end Go.Proofs.Ytnahlemchajfdaa.Meta
namespace Go.Proofs.Ytnahlemchajfdaa.Meta
open Go Go.Conc
open Go.ConcN (sumTo upd sumTo_upd upd_ne upd_same)

abbrev NoShun : Loc → Prop := fun _ => False

theorem evL_of {n : Nat} {e : Event} (h : EvOk n e) : EvL NoShun n e := by
  obtain ⟨loc, wr, sy⟩ := e
  cases loc with
  | cell a => exact ⟨fun x hx hs => hs.elim, by simp, by simp, h⟩
  | obj r => exact ⟨fun x hx hs => hs.elim, by simp, by simp, by cases wr <;> cases sy <;> exact h⟩
  | mark m =>
    have hm : m = .noRoom := h
    subst hm
    exact ⟨fun x hx hs => hs.elim, by simp, by simp, trivial⟩
  | output => exact h.elim
  | goroutines => exact h.elim

/-- What a run leaves of a world. -/
def Kept (w w' : World) : Prop := w'.tape = w.tape ∧ w'.os = w.os ∧ w'.output = w.output
theorem Kept.refl (w : World) : Kept w w := ⟨rfl, rfl, rfl⟩
theorem Kept.trans {a b c : World} (h : Kept a b) (k : Kept b c) : Kept a c := ⟨k.1.trans h.1, k.2.1.trans h.2.1, k.2.2.trans h.2.2⟩

section
variable {P : Program} {Stop : Goroutine → World → Prop}

/-- SUCH A WALK, BESIDE LEAVERS, ON WHATEVER TAPE. -/
theorem walkW_beside {a : Goroutine} {w : World} (h : GoesW P true DP Stop a w) :
    ∀ (M d0 : Nat) (gs : Array Goroutine) (sl : Option (Nat × Nat)) (t : Trace) (q : Nat → Nat), sumTo gs.size q ≤ M → gs[0]? = some a → Leavers P t gs q → Past NoShun w.heap.size t →
      ∃ (N : Nat) (gs' : Array Goroutine) (a' : Goroutine) (w' : World) (sl' : Option (Nat × Nat)) (t' : Trace) (q' : Nat → Nat),
        runNT P N (crowd gs (w.at d0) sl) t = (.next (crowd gs' w' sl'), t') ∧ gs'.size = gs.size ∧ gs'[0]? = some a' ∧ Stop a' w' ∧ Leavers P t' gs' q' ∧ Past NoShun w'.heap.size t' ∧ Kept w w' := by
  induction h with
  | @stop g w hs => exact fun M d0 gs sl t q _ h0 hL hP => ⟨0, gs, g, w.at d0, sl, t, q, rfl, rfl, h0, hs d0, hL, hP, rfl, rfl, rfl⟩
  | @step a w a' w' es hrun h1 _ ih =>
    intro M
    induction M using Nat.strongRecOn with
    | ind M ihM =>
      intro d0 gs sl t q hM h0 hL hP
      have haw : ∀ g ∈ gs, awake g := by
        intro g hg
        obtain ⟨i, hi, rfl⟩ := Array.mem_iff_getElem.1 hg
        by_cases hz : i = 0
        · subst hz
          have : gs[0] = a := by simpa [Array.getElem?_eq_getElem hi] using h0
          rw [this]; exact awake_of (.inl hrun)
        · exact awake_of ((hL.old i _ (by omega) (Array.getElem?_eq_getElem hi)).status.elim .inl fun x => .inr (.inr x))
      obtain ⟨i, g, d, sl', hi, hg, hst⟩ := crowd_pick (P := P) (w := w.at d0) (sl := sl) haw ⟨0, a, h0, hrun⟩
      have hwat : (w.at d0).at d = w.at d := rfl
      rw [hwat] at hst
      have hlt : i < gs.size := (Array.getElem?_eq_some_iff.1 hi).1
      by_cases hz : i = 0
      · -- its own step
        subst hz
        obtain rfl : g = a := by rw [h0] at hi; exact (Option.some.inj hi).symm
        obtain ⟨hgo, hgrow, htape, hos, hout, hev⟩ := h1 d
        have hrunT := runT_crowd_go (P := P) (sl := sl') (i := 0) hi (show stepG P (0 == 0) g (w.at d) = _ from hgo)
        have hdeaf : ∀ j, j ≠ 0 → Deaf (t ++ MemOp.ofEvents 0 g.frame.fn g.frame.place (es d)) j = Deaf t j := fun j hj =>
          Deaf_other t (fun x => hj x.symm) _ (by intro op hop; obtain ⟨e, _, rfl⟩ := Go.Conc.mem_ofEvents hop; rfl)
        have hsz : ((gs.map (woken P g (a' d) (w' d))).setIfInBounds 0 (a' d)).size = gs.size := by simp
        have hw : (w' d).at (w' d).drawn = w' d := rfl
        obtain ⟨N, gs', a'', w'', sl'', t', q', hr, hs', h0', hS, hL', hP', hK'⟩ := ih d (sumTo gs.size q) (w' d).drawn ((gs.map (woken P g (a' d) (w' d))).setIfInBounds 0 (a' d)) sl' (t ++ MemOp.ofEvents 0 g.frame.fn g.frame.place (es d)) q
          (by rw [hsz]; exact Nat.le_refl _) (by simp [hlt])
          ⟨fun j x hj hx => by
            rw [Array.getElem?_setIfInBounds_ne (by omega), Array.getElem?_map] at hx
            obtain ⟨y, hy, rfl⟩ := Option.map_eq_some_iff.1 hx
            have hq := hL.old j y hj hy
            rw [woken_quitsD hq, hdeaf j (by omega)]
            exact hq, fun j hj => by
            rw [hsz] at hj
            rw [hdeaf j (by omega)]
            exact hL.above j hj⟩
          ((hP.mono hgrow).own fun e he => evL_of (hev e he))
        rw [hw] at hr
        exact ⟨N + 1, gs', a'', w'', sl'', t', q', by simp only [runNT, hst, hrunT]; exact hr, hs'.trans hsz, h0', hS, hL', hP', Kept.trans ⟨htape, hos, hout⟩ hK'⟩
      · -- a leaver's
        have hq := hL.old i g (by omega) hi
        have hi0 : (i == 0) = false := by simpa using hz
        cases hqi : q i with
        | zero => rw [hqi] at hq; rw [hq.1] at hg; cases hg
        | succ k =>
          rw [hqi] at hq
          rcases hq with ⟨hf, _⟩ | ⟨_, g', es', hm, hstp, hq'⟩
          · rw [hf] at hg; cases hg
          have hrunT := runT_crowd_go (P := P) (sl := sl') (i := i) hi (by rw [hi0]; exact hstp (w.at d))
          have hsz : ((gs.map (woken P g g' (w.at d))).setIfInBounds i g').size = gs.size := by simp
          have hsum : sumTo gs.size (upd q i k) + (k + 1) = sumTo gs.size q + k := by
            have := sumTo_upd q k id hlt
            simpa [hqi] using this
          have hdeaf : ∀ j, j ≠ i → Deaf (t ++ MemOp.ofEvents i g.frame.fn g.frame.place es') j = Deaf t j := fun j hj =>
            Deaf_other t (fun x => hj x.symm) _ (by intro op hop; obtain ⟨e, _, rfl⟩ := Go.Conc.mem_ofEvents hop; rfl)
          obtain ⟨N, gs', a'', w'', sl'', t', q', hr, hs', h0', hS, hL', hP', hK'⟩ := ihM (M - 1) (by omega) d ((gs.map (woken P g g' (w.at d))).setIfInBounds i g') sl' (t ++ MemOp.ofEvents i g.frame.fn g.frame.place es') (upd q i k)
            (by rw [hsz]; omega)
            (by
              rw [Array.getElem?_setIfInBounds_ne hz, Array.getElem?_map, h0]
              simp [woken_run hrun])
            ⟨fun j x hj hx => by
              by_cases hji : i = j
              · subst hji
                rw [Array.getElem?_setIfInBounds_self_of_lt (by simpa using hlt)] at hx
                obtain rfl := Option.some.inj hx
                rw [upd_same, Deaf_own]
                exact hq'
              · rw [Array.getElem?_setIfInBounds_ne hji, Array.getElem?_map] at hx
                obtain ⟨y, hy, rfl⟩ := Option.map_eq_some_iff.1 hx
                have hqj := hL.old j y hj hy
                rw [woken_quitsD hqj, upd_ne q k (Ne.symm hji), hdeaf j (Ne.symm hji)]
                exact hqj, fun j hj => by
              rw [hsz] at hj
              rw [hdeaf j (by omega)]
              exact hL.above j hj⟩
            (hP.mute (by omega) hm)
          exact ⟨N + 1, gs', a'', w'', sl'', t', q', by simp only [runNT, hst, hrunT]; exact hr, hs'.trans hsz, h0', hS, hL', hP', hK'⟩
end
end Go.Proofs.Ytnahlemchajfdaa.Meta
namespace Go.Proofs.Ytnahlemchajfdaa.Meta
open Go Go.Conc

/-! The walk in company, with no bound on its steps. -/
section
variable (P : Program) (main : Bool) (D : World → World → Array Event → Prop) (Stop : Goroutine → World → Prop)

def AfterW (b : Frame) (k : List Item) (cs : List Frame) : Exit → Act → World → Prop
  | .normal, a, w => GoesW P main D Stop (G (b.at a k) cs) w
  | .exit id, a, w => ∃ k', exitTo id k = some k' ∧ GoesW P main D Stop (G (b.at a k') cs) w
  | .ret, a, w => ∀ todo, GoesW P main D Stop (G { b.at a todo with mode := .returning } cs) w
  | _, _, _ => False
end

def wpW (P : Program) (main : Bool) (D : World → World → Array Event → Prop) (fn : FuncId) (c : Code) (Q : Exit → Act → World → Prop) (a : Act) (w : World) : Prop :=
  NPW w → ∀ (b : Frame) (k : List Item) (cs : List Frame) (Stop : Goroutine → World → Prop), b.fn = fn → b.kind ≠ .early →
    (∀ e a' w', Q e a' w' → NPW w' → AfterW P main D Stop b k cs e a' w') → GoesW P main D Stop (G (b.at a (.code c :: k)) cs) w
def OpsW (P : Program) (main : Bool) (D : World → World → Array Event → Prop) (fn : FuncId) (ops : Array Oper) (todo : List Nat) (Q : Exit → Act → World → Prop) (a : Act) (w : World) : Prop :=
  NPW w → ∀ (b : Frame) (k : List Item) (cs : List Frame) (Stop : Goroutine → World → Prop), b.fn = fn → b.kind ≠ .early →
    (∀ e a' w', Q e a' w' → NPW w' → AfterW P main D Stop b k cs e a' w') → GoesW P main D Stop (G (b.at a (.inRegion ops todo :: k)) cs) w

section
variable {P : Program} {main : Bool} {D : World → World → Array Event → Prop} {fn : FuncId} {Q : Exit → Act → World → Prop} {a : Act} {w : World} {Stop : Goroutine → World → Prop}

/-- A step that turns nothing and lists nothing is allowed. -/
def Idle (D : World → World → Array Event → Prop) : Prop := ∀ w d, D w (w.at d) #[]
theorem Idle.same {D : World → World → Array Event → Prop} (J : Idle D) (w : World) : D w w #[] := J w w.drawn
theorem dp_idle : Idle DP := fun w d => ⟨Nat.le_refl _, rfl, rfl, rfl, fun e he => by simp at he⟩
theorem NPW.at' {w : World} (h : NPW w) (d : Nat) : NPW (w.at d) := h.eq rfl

/-- A step that looks at no world. -/
theorem GoesW.still (J : Idle D) {g g' : Goroutine} {w : World} (hr : g.status = .running) (h : ∀ w, stepG P main g w = .go g' w #[]) (hg : GoesW P main D Stop g' w) : GoesW P main D Stop g w :=
  .of hr fun d => ⟨g', w.at d, #[], h _, J.same _, hg.at d⟩

theorem AfterW.push {b : Frame} {x : Item} {k : List Item} {cs : List Frame} {e : Exit} {a : Act} {w : World} (hx : x.plain = true) (he : e ≠ .normal) (h : AfterW P main D Stop b k cs e a w) : AfterW P main D Stop b (x :: k) cs e a w := by
  cases e with
  | normal => exact absurd rfl he
  | exit id => obtain ⟨k', hk, hg⟩ := h; exact ⟨k', by cases x <;> simp_all [exitTo, Item.plain], hg⟩
  | ret => exact h
  | goto l => exact h
  | panic ch => exact h
  | outgrown => exact h

theorem wpW_mono {c : Code} {Q' : Exit → Act → World → Prop} (h : wpW P main D fn c Q a w) (hq : ∀ e a w, Q e a w → Q' e a w) : wpW P main D fn c Q' a w :=
  fun hn b k cs Stop hb hk hc => h hn b k cs Stop hb hk fun e a' w' q => hc e a' w' (hq e a' w' q)
theorem wpW_at {c : Code} (d : Nat) (h : wpW P main D fn c Q a w) : wpW P main D fn c Q a (w.at d) :=
  fun hn b k cs Stop hb hk hc => (h (hn.eq rfl) b k cs Stop hb hk hc).at d

theorem wpW_skip (J : Idle D) (h : Q .normal a w) : wpW P main D fn .skip Q a w := fun hn b k cs Stop _ _ hc => .still J rfl (fun w => stepG_skip) (hc _ _ _ h hn)
theorem wpW_label (J : Idle D) {l : Nat} (h : Q .normal a w) : wpW P main D fn (.label l) Q a w := fun hn b k cs Stop _ _ hc => .still J rfl (fun w => stepG_label) (hc _ _ _ h hn)
theorem wpW_ret (J : Idle D) (h : Q .ret a w) : wpW P main D fn .ret Q a w := fun hn b k cs Stop _ _ hc => .still J rfl (fun w => stepG_ret') (hc _ _ _ h hn _)
theorem wpW_exit (J : Idle D) {id : Nat} (h : Q (.exit id) a w) : wpW P main D fn (.exit id) Q a w := fun hn b k cs Stop _ _ hc => by
  obtain ⟨k', hk', hg⟩ := hc _ _ _ h hn
  exact .still J rfl (fun w => stepG_exit hk') hg

theorem wpW_seq (J : Idle D) {x y : Code} (h : wpW P main D fn x (Exit.then (fun a' w' => wpW P main D fn y Q a' w') Q) a w) : wpW P main D fn (.seq x y) Q a w := by
  intro hn b k cs Stop hb hk hc
  refine .still J rfl (fun w => stepG_seq) (h hn b (.code y :: k) cs Stop hb hk fun e a' w' q hn' => ?_)
  cases e with
  | normal => exact q hn' b k cs Stop hb hk hc
  | exit id => exact (hc _ _ _ q hn').push rfl (by simp)
  | ret => exact AfterW.push (x := .code y) rfl (by simp) (hc _ _ _ q hn')
  | goto l => exact hc _ _ _ q hn'
  | panic ch => exact hc _ _ _ q hn'
  | outgrown => exact hc _ _ _ q hn'

theorem wpW_cond (J : Idle D) {c : Operand} {x y : Code} {t : Bool} (hc : a.eval c = .bool t) (h : wpW P main D fn (if t then x else y) Q a w) : wpW P main D fn (.cond c x y) Q a w :=
  fun hn b k cs Stop hb hk hq => .still J rfl (fun w => stepG_cond hc) (h hn b k cs Stop hb hk hq)

theorem wpW_block (J : Idle D) {id : Nat} {c : Code} (h : wpW P main D fn c (Exit.inBlock id Q) a w) : wpW P main D fn (.block id c) Q a w := by
  intro hn b k cs Stop hb hk hc
  refine .still J rfl (fun w => stepG_block) (h hn b (.inBlock id :: k) cs Stop hb hk fun e a' w' q hn' => ?_)
  cases e with
  | normal => exact .still J rfl (fun w => stepG_inBlock) (hc _ _ _ q hn')
  | exit id' =>
    by_cases hid : id' = id
    · simp only [Exit.inBlock, hid, if_true] at q
      exact ⟨k, by simp [exitTo, hid], hc _ _ _ q hn'⟩
    · simp only [Exit.inBlock, hid, if_false] at q
      obtain ⟨k', hk', hg⟩ := hc _ _ _ q hn'
      have : (id == id') = false := by simp; exact fun h => hid h.symm
      exact ⟨k', by simp [exitTo, this, hk'], hg⟩
  | ret => exact hc _ _ _ q hn'
  | goto l => exact hc _ _ _ q hn'
  | panic ch => exact hc _ _ _ q hn'
  | outgrown => exact hc _ _ _ q hn'

/-- A loop: an invariant, and a measure that every round lowers. -/
theorem wpW_loop (J : Idle D) {c : Code} (I : Act → World → Prop) (μ : Act → World → Nat) (h₀ : I a w)
    (round : ∀ a w, I a w → wpW P main D fn c (Exit.then (fun a' w' => I a' w' ∧ μ a' w' < μ a w) Q) a w) : wpW P main D fn (.loop c) Q a w := by
  intro hn b k cs Stop hb hk hc
  have key : ∀ N a w, μ a w ≤ N → I a w → NPW w → GoesW P main D Stop (G (b.at a (.code c :: .inLoop c :: k)) cs) w := by
    intro N
    induction N using Nat.strongRecOn with
    | ind N ih =>
      intro a w hμ hI hn
      refine round a w hI hn b (.inLoop c :: k) cs Stop hb hk fun e a' w' q hn' => ?_
      cases e with
      | normal => exact .still J rfl (fun w => stepG_inLoop) (ih (μ a' w') (by have := q.2; omega) a' w' (Nat.le_refl _) q.1 hn')
      | exit id => exact (hc _ _ _ q hn').push rfl (by simp)
      | ret => exact AfterW.push (x := .inLoop c) rfl (by simp) (hc _ _ _ q hn')
      | goto l => exact hc _ _ _ q hn'
      | panic ch => exact hc _ _ _ q hn'
      | outgrown => exact hc _ _ _ q hn'
  exact .still J rfl (fun w => stepG_loop) (key _ a w (Nat.le_refl _) h₀ hn)

theorem wpW_region (J : Idle D) {id : Nat} {ops : Array Oper} (h : OpsW P main D fn ops (List.range ops.size) Q a w) : wpW P main D fn (.region id ops false) Q a w :=
  fun hn b k cs Stop hb hk hc => .still J rfl (fun w => stepG_region) (h hn b k cs Stop hb hk hc)

/-- A region whose order is drawn: every order. -/
theorem wpW_drawn (J : Idle D) {id : Nat} {ops : Array Oper} (h : ∀ t, OpsW P main D fn ops (Region.schedule (P.follows .mixedOrders) ops t) Q a w) : wpW P main D fn (.region id ops true) Q a w := by
  intro hn b k cs Stop hb hk hc
  refine .of rfl fun d => ?_
  by_cases hq : (Question.order b.fn id).forced = true
  · refine ⟨G (b.at a (.inRegion ops (Region.schedule (P.follows .mixedOrders) ops 0) :: k)) cs, w.at d, #[], ?_, J.same _, (h 0 hn b k cs Stop hb hk hc).at d⟩
    simp [G, stepG, stepG.exec, Frame.at, choose, Sem.run, hq]
  · refine ⟨G (b.at a (.inRegion ops (Region.schedule (P.follows .mixedOrders) ops ((Question.order b.fn id).cut ((w.at d).tape (w.at d).drawn (.order b.fn id)))) :: k)) cs, w.at (d + 1), #[], ?_, J (w.at d) (d + 1), (h _ hn b k cs Stop hb hk hc).at (d + 1)⟩
    simp [G, stepG, stepG.exec, Frame.at, choose, Sem.run, hq]
    rfl

theorem opsW_nil (J : Idle D) {ops : Array Oper} (h : Q .normal a w) : OpsW P main D fn ops [] Q a w := fun hn b k cs Stop _ _ hc => .still J rfl (fun w => stepG_region_end) (hc _ _ _ h hn)
theorem opsW_unwanted (J : Idle D) {ops : Array Oper} {i : Nat} {rest : List Nat} {o : Oper} (ho : ops[i]? = some o) (hw : Region.wanted o (yielded ops a.tmps) = false)
    (h : OpsW P main D fn ops rest Q (a.put o.dst undef) w) : OpsW P main D fn ops (i :: rest) Q a w :=
  fun hn b k cs Stop hb hk hc => .still J rfl (fun w => stepG_unwanted ho hw) (h hn b k cs Stop hb hk hc)
theorem opsW_at {ops : Array Oper} {todo : List Nat} (d : Nat) (h : OpsW P main D fn ops todo Q a w) : OpsW P main D fn ops todo Q a (w.at d) :=
  fun hn b k cs Stop hb hk hc => (h (hn.eq rfl) b k cs Stop hb hk hc).at d

theorem shut_none (P : Program) : Calling P (fun _ => false) := fun f h => Bool.noConfusion h

/-- An operation, whatever is asked of a step. -/
theorem opsW_any {ops : Array Oper} {i : Nat} {rest : List Nat} {o : Oper} (ho : ops[i]? = some o) (hw : Region.wanted o (yielded ops a.tmps) = true)
    (h : NPW w → ∀ d, match (execOp a.eval o).run P (w.at d) with
      | .ok (.value v) w' => NPW w' ∧ D (w.at d) w' (listed P fn a o (w.at d)) ∧ OpsW P main D fn ops rest Q (a.put o.dst v) w'
      | .ok .skip w' => NPW w' ∧ D (w.at d) w' (listed P fn a o (w.at d)) ∧ OpsW P main D fn ops rest Q (a.put o.dst undef) w'
      | _ => False) : OpsW P main D fn ops (i :: rest) Q a w := by
  intro hn b k cs Stop hb hk hc
  refine .of rfl fun d => ?_
  have hd := h hn d
  generalize hr : (execOp a.eval o).run P (w.at d) = r at hd
  cases r with
  | halt x w' => exact hd.elim
  | ok n w' =>
    cases n with
    | value v => exact ⟨_, _, _, stepG_value ho hw hk hr, hb ▸ hd.2.1, hd.2.2 hd.1 b k cs Stop hb hk hc⟩
    | skip => exact ⟨_, _, _, stepG_none ho hw hk hr, hb ▸ hd.2.1, hd.2.2 hd.1 b k cs Stop hb hk hc⟩
    | _ => exact hd.elim

/-- What a plain operation keeps, by itself. -/
theorem dp_op {o : Oper} (hp : opOk (fun _ => false) o.op = true) (hn : NPW w) {n : Next} {w' : World} (hr : (execOp a.eval o).run P w = .ok n w') : NPW w' ∧ DP w w' (listed P fn a o w) := by
  have hpl := pl_execOp (P := P) (shut_none P) a.eval (fun f => rfl) o hp
  obtain ⟨e1, e2, e3, e4⟩ := run_events _ hpl w #[]
  obtain ⟨n1, _⟩ := run_np _ hpl w #[] hn
  obtain ⟨kk, t1, _, _⟩ := run_local _ hpl w #[]
  rw [Sem.runT_eq] at e1 e2 e3 e4 n1 t1
  rw [hr] at e1 e2 e3 e4 n1 t1
  exact ⟨n1, e1, t1, e2, e3, fun e he => (e4 e (mem_seen e he)).elim (fun x => by simp at x) id⟩

/-- AN OPERATION THAT CALLS NOTHING. -/
theorem opsW_cons {ops : Array Oper} {i : Nat} {rest : List Nat} {o : Oper} (hp : opOk (fun _ => false) o.op = true) (ho : ops[i]? = some o) (hw : Region.wanted o (yielded ops a.tmps) = true)
    (h : ∀ d, match (execOp a.eval o).run P (w.at d) with
      | .ok (.value v) w' => OpsW P main DP fn ops rest Q (a.put o.dst v) w'
      | .ok .skip w' => OpsW P main DP fn ops rest Q (a.put o.dst undef) w'
      | _ => False) : OpsW P main DP fn ops (i :: rest) Q a w := by
  refine opsW_any ho hw fun hn d => ?_
  have hd := h d
  generalize hr : (execOp a.eval o).run P (w.at d) = r at hd
  cases r with
  | halt x w' => exact hd.elim
  | ok n w' =>
    have := dp_op (fn := fn) hp (hn.at' d) hr
    cases n with
    | value v => exact ⟨this.1, this.2, hd⟩
    | skip => exact ⟨this.1, this.2, hd⟩
    | _ => exact hd.elim
end
end Go.Proofs.Ytnahlemchajfdaa.Meta
namespace Go.Proofs.Ytnahlemchajfdaa.Meta
open Go Go.Conc

/-- A CONTRACT IN COMPANY, WITH NO BOUND. Entered beneath a caller: back at the caller's with a value and in a world that satisfy Post. -/
def CallsW (P : Program) (main : Bool) (f : FuncId) (args : Array Value) (w : World) (Post : Value → World → Prop) : Prop :=
  ∀ (Stop : Goroutine → World → Prop) (c : Frame) (rest : List Frame), NPW w → (∀ v w', Post v w' → NPW w' → GoesW P main DP Stop (G (c.finish v) rest) w') →
    GoesW P main DP Stop (G (Frame.enter P f args .normal) (c :: rest)) w

section
variable {P : Program} {main : Bool}

/-- By a lone contract of a plain function. -/
theorem CallsW.of_lone {S : FuncId → Bool} (hS : Shut P S) {f : FuncId} (hf : S f = true) {args : Array Value} {w : World} {Post : Value → World → Prop}
    (hpost : ∀ v w τ d, Post v w → Post v (wt w τ d)) (hlone : ∀ τ, Calls P f args (wt w τ 0) fun e w' => ∃ v, e = .returned v ∧ Post v w') : CallsW P main f args w Post :=
  fun Stop c rest hn hnext => lift hS hf hn hpost hlone hnext

def bodyPostW (P : Program) (fn : Func) (Post : Value → World → Prop) : Exit → Act → World → Prop
  | .normal, a, w | .ret, a, w => a.defers = [] ∧ ∃ v, ResultsC P fn a.tmps v ∧ Post v w
  | _, _, _ => False

/-- By a walk of its body in company. -/
theorem CallsW.of_wpW {f : FuncId} {fn : Func} {code : Code} {args : Array Value} {w : World} {Post : Value → World → Prop} (hf : P.funcs[f]? = some fn) (hb : fn.body = some code)
    (h : wpW P main DP f code (bodyPostW P fn Post) { tmps := args ++ Array.replicate (fn.ntmps - args.size) undef, defers := [] } w) : CallsW P main f args w Post := by
  intro Stop c rest hn hnext
  have hleave : ∀ (a' : Act) (w' : World) (todo : List Item), NPW w' → (a'.defers = [] ∧ ∃ v, ResultsC P fn a'.tmps v ∧ Post v w') → GoesW P main DP Stop (G { (base f).at a' todo with mode := .returning } (c :: rest)) w' := by
    rintro a' w' todo hn' ⟨hd, v, hr, hp⟩
    exact .still dp_idle rfl (fun w => stepG_leave (b := base f) rfl hd hf (hr w).1 (hr w).2) (hnext v w' hp hn')
  rw [enter_at args hf hb]
  refine h hn (base f) [] (c :: rest) Stop rfl (by simp [base]) fun e a' w' q hn' => ?_
  cases e with
  | normal => exact .still dp_idle rfl (fun w => stepG_end) (hleave a' w' [] hn' q)
  | ret => exact fun todo => hleave a' w' todo hn' q
  | exit id => exact q.elim
  | goto l => exact q.elim
  | panic ch => exact q.elim
  | outgrown => exact q.elim

theorem CallsW.mono {f : FuncId} {args : Array Value} {w : World} {Post Post' : Value → World → Prop} (h : CallsW P main f args w Post) (hp : ∀ v w', Post v w' → Post' v w') : CallsW P main f args w Post' :=
  fun Stop c rest hn hnext => h Stop c rest hn fun v w' q => hnext v w' (hp v w' q)

/-- The same as a rule of the judgement. -/
theorem opsW_call {fn : FuncId} {Q : Exit → Act → World → Prop} {a : Act} {w : World} {ops : Array Oper} {i : Nat} {rest : List Nat} {o : Oper} {f : FuncId} {fn' : Func} {code : Code} {args : Array Operand} {ats : Array TypeId} {Post : Value → World → Prop}
    (ho : ops[i]? = some o) (hw : Region.wanted o (yielded ops a.tmps) = true) (hop : o.op = .call { callee := .value (.func f), args, argTypes := ats })
    (hf : P.funcs[f]? = some fn') (hname : (fn'.name == "runtime.NumGoroutine") = false) (hb : fn'.body = some code)
    (hcall : CallsW P main f (args.map a.eval) w Post) (hnext : ∀ v w', Post v w' → OpsW P main DP fn ops rest Q (a.put o.dst v) w') : OpsW P main DP fn ops (i :: rest) Q a w := by
  intro hn b k cs Stop hbf hk hc
  have hb' : fn'.body.isNone = false := by rw [hb]; rfl
  have hfin : ∀ v, (b.at a (.inRegion ops (i :: rest) :: k)).finish v = b.at (a.put o.dst v) (.inRegion ops rest :: k) := fun v => by rw [Frame.finish_at, ho]; rfl
  refine .still dp_idle rfl (fun w => ?_) (hcall Stop (b.at a (.inRegion ops (i :: rest) :: k)) cs hn fun v w' q hn' => by rw [hfin]; exact hnext v w' q hn' b k cs Stop hbf hk hc)
  rw [stepG_enter ho hw hk (run_call_body hop hf hname hb')]
  have : listed P b.fn a o w = #[] := by unfold listed; rw [events_call_body hop hf hname hb']; exact seen_none P _
  rw [this]
end
end Go.Proofs.Ytnahlemchajfdaa.Meta
