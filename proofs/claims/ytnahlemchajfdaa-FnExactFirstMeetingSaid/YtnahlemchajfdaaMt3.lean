/- Pieces of code in company; a worker that sends on a channel and closes another; a holder that hears both. -/
import Derived.Test.YtnahlemchajfdaaMt2
import Derived.Conc.TokenTrace
import Derived.Conc.CrowdComm
import Derived.Conc.CrowdSel
namespace Go.Proofs.Ytnahlemchajfdaa.Meta
open Go Go.Conc

/-! A plain piece of code, walked alone on whatever tape, does so in company: whatever stands behind it. -/

/-- More to do behind. -/
def sfx (K : List Item) (fr : Frame) : Frame := { fr with todo := fr.todo ++ K }
def Out.sfx (K : List Item) : Out → Out
  | .next fr w es => .next (Go.Proofs.Ytnahlemchajfdaa.Meta.sfx K fr) w es
  | .raise ch fr w es => .raise ch (Go.Proofs.Ytnahlemchajfdaa.Meta.sfx K fr) w es
  | o => o
/-- Behind the piece: nothing that runs. -/
def halt0 : List Item := [.code (.refuse "")]

theorem exitTo_app {id : Nat} {k k' : List Item} (K : List Item) (h : exitTo id k = some k') : exitTo id (k ++ K) = some (k' ++ K) := by
  induction k with
  | nil => cases h
  | cons x k ih =>
    cases x with
    | inBlock id' =>
      simp only [exitTo, List.cons_append] at h ⊢
      split
      · rename_i he; rw [if_pos he] at h; cases h; rfl
      · rename_i he; rw [if_neg he] at h; exact ih h
    | _ => exact ih h
theorem exitTo_app_none {id : Nat} {k : List Item} (h : exitTo id k = none) : exitTo id (k ++ halt0) = none := by
  induction k with
  | nil => rfl
  | cons x k ih =>
    cases x with
    | inBlock id' =>
      simp only [exitTo, List.cons_append] at h ⊢
      split
      · rename_i he; rw [if_pos he] at h; cases h
      · rename_i he; rw [if_neg he] at h; exact ih h
    | _ => exact ih h

def GivesX (P : Program) (fr : Frame) (o : Out) (n : Nat) (w : World) : Prop :=
  ∀ K main cs τ d, (o = .bad → K = halt0) → Agree w n τ d → Gives P (sfx K fr) (o.sfx K) n (stepG P main (G (sfx K fr) cs) (wt w τ d)) cs τ d

theorem finish_sfx {fr : Frame} (hne : fr.todo ≠ []) (K : List Item) (v : Value) : (sfx K fr).finish v = sfx K (fr.finish v) := by
  obtain ⟨fn, tmps, todo, defers, mode, kind, round⟩ := fr
  cases todo with
  | nil => exact absurd rfl hne
  | cons it k =>
    cases it with
    | inRegion ops l =>
      cases l with
      | nil => rfl
      | cons i rest => rfl
    | _ => rfl

theorem outx_next {S : FuncId → Bool} {P : Program} {fr fr' : Frame} {w : World} (hw : NPW w) (h : FrOk P S fr') (hfn : fr'.fn = fr.fn) (he : ∀ K main cs w, stepG P main (G (sfx K fr) cs) w = .go (G (sfx K fr') cs) w #[]) :
    ∃ n o, OutOk P S fr w n o ∧ GivesX P fr o n w :=
  ⟨0, .next fr' w #[], ⟨fun _ => rfl, fun _ => rfl, Nat.le_refl _, hw, ⟨rfl, rfl⟩, fun e he => by simp [Out.es] at he, h, hfn⟩, fun K main cs τ d _ _ => he K main cs _⟩
theorem outx_bad {S : FuncId → Bool} {P : Program} {fr : Frame} {w : World} (hw : NPW w) (he : ∀ main cs w, ∃ x w' es, stepG P main (G (sfx halt0 fr) cs) w = .ended x w' es) :
    ∃ n o, OutOk P S fr w n o ∧ GivesX P fr o n w :=
  ⟨0, .bad, ⟨fun h => absurd rfl h, fun h => absurd rfl h, Nat.le_refl _, hw, ⟨rfl, rfl⟩, fun e he => by simp [Out.es] at he, trivial⟩, fun K main cs τ d hK _ => by rw [hK rfl]; exact he main cs _⟩

theorem applyx {S : FuncId → Bool} {P : Program} {s : Sem Next} (h : Pl P (NextOk S) s) {fr : Frame} (hf : FrOk P S fr) (hmode : fr.mode = .run) (hne : fr.todo ≠ [])
    (hc : ∀ d r s k, fr.todo ≠ .call d true r s :: k) (w : World) (hw : NPW w) :
    ∃ n o, OutOk P S fr w n o ∧ ∀ K cs τ d, (o = .bad → K = halt0) → Agree w n τ d → Gives P (sfx K fr) (o.sfx K) n (stepG.apply P true (sfx K fr) cs none s (wt w τ d)) cs τ d := by
  obtain ⟨k, h1, h2, h3⟩ := run_local s h w #[]
  obtain ⟨n1, n2⟩ := run_np s h w #[] hw
  obtain ⟨e1, e2, e3, e4⟩ := run_events s h w #[]
  have hpost := run_post s h w #[]
  generalize hr : s.runT P w #[] = r at h1 h2 h3 n1 n2 e1 e2 e3 e4 hpost
  obtain ⟨res, es⟩ := r
  have hk : ∀ K, ((sfx K fr).kind == CallKind.early) = false := by intro K; show (fr.kind == CallKind.early) = false; rw [hf.kind]; rfl
  have hev : ∀ e ∈ seen P fr.fn es, EvOk (Result.world res).heap.size e := fun e he => by
    rcases e4 e (mem_seen e he) with x | x
    · simp at x
    · exact x
  have hfn : ∀ K, (sfx K fr).fn = fr.fn := fun K => rfl
  cases res with
  | ok n w' =>
    have hn := hpost n w' rfl
    cases n with
    | value v =>
      refine ⟨k, .next (fr.finish v) w' (seen P fr.fn es), ⟨fun _ => h1, fun _ => h2, e1, n1, ⟨e2, e3⟩, hev, hf.finish v⟩, fun K cs τ d _ ha => ?_⟩
      have hh := h3 τ d ha
      simp only [Gives, Out.sfx, stepG.apply, hh, rwt, if_true, hk, Bool.false_eq_true, if_false, GStep.after, finish_sfx hne]
      simp [G, hfn]
    | skip =>
      refine ⟨k, .next (fr.finish undef) w' (seen P fr.fn es), ⟨fun _ => h1, fun _ => h2, e1, n1, ⟨e2, e3⟩, hev, hf.finish _⟩, fun K cs τ d _ ha => ?_⟩
      have hh := h3 τ d ha
      simp only [Gives, Out.sfx, stepG.apply, hh, rwt, if_true, hk, Bool.false_eq_true, if_false, GStep.after, finish_sfx hne]
      simp [G, hfn]
    | enter f args =>
      refine ⟨k, .enter f args w' (seen P fr.fn es), ⟨fun _ => h1, fun _ => h2, e1, n1, ⟨e2, e3⟩, hev, hn, hmode⟩, fun K cs τ d _ ha => ?_⟩
      have hh := h3 τ d ha
      have hcK : ∀ d r s k, (sfx K fr).todo ≠ .call d true r s :: k := by
        intro d r s k e
        cases ht : fr.todo with
        | nil => exact hne ht
        | cons x y =>
          simp only [sfx, ht, List.cons_append, List.cons.injEq] at e
          exact hc d r s y (by rw [ht, e.1])
      simp only [Gives, Out.sfx, stepG.apply, hh, rwt, if_true, hk, Bool.false_eq_true, if_false, GStep.after]
      simp only [G, Array.append_empty, hfn]
      first
        | done
        | (split
           · rename_i e; exact absurd e (hcK _ _ _ _)
           · rfl)
    | _ => exact hn.elim
  | halt x w' =>
    have hx := n2 x w' rfl
    cases x with
    | panic v =>
      refine ⟨k, .raise [{ v, recovered := false }] (fr.raise [{ v, recovered := false }]) w' (seen P fr.fn es), ⟨fun _ => h1, fun _ => h2, e1, n1, ⟨e2, e3⟩, hev, ?_⟩, fun K cs τ d _ ha => ?_⟩
      · refine ⟨by simp [Frame.raise, hmode], by simp [Frame.raise, hmode, hf.defers], ?_⟩
        obtain ⟨fn, hfn⟩ := hf.fn
        exact ⟨fn, by simpa [Frame.raise, hmode] using hfn⟩
      · have hh := h3 τ d ha
        simp only [Gives, Out.sfx, stepG.apply, hh, rwt, if_true, hk, Bool.false_eq_true, if_false, GStep.after]
        simp [G, hfn, Frame.raise, hmode, sfx]
    | unsupported u =>
      refine ⟨k, .bad, ⟨fun h => absurd rfl h, fun h => absurd rfl h, Nat.le_refl _, hw, ⟨rfl, rfl⟩, fun e he => by simp [Out.es] at he, trivial⟩, fun K cs τ d _ ha => ?_⟩
      have hh := h3 τ d ha
      cases u <;> first
        | exact hx.elim
        | (simp only [Gives, Out.sfx, stepG.apply, hh, rwt, if_true, hk, Bool.false_eq_true, if_false, GStep.after]; rw [early_bad hf.nr hx]; exact ⟨_, _, _, rfl⟩)
        | (simp only [Gives, Out.sfx, stepG.apply, hh, rwt, if_true, hk, Bool.false_eq_true, if_false, GStep.after]; exact ⟨_, _, _, rfl⟩)
    | stuck y =>
      refine ⟨k, .bad, ⟨fun h => absurd rfl h, fun h => absurd rfl h, Nat.le_refl _, hw, ⟨rfl, rfl⟩, fun e he => by simp [Out.es] at he, trivial⟩, fun K cs τ d _ ha => ?_⟩
      have hh := h3 τ d ha
      simp only [Gives, Out.sfx, stepG.apply, hh, rwt, if_true, hk, Bool.false_eq_true, if_false, GStep.after]
      exact ⟨_, _, _, rfl⟩
    | _ => exact hx.elim

/-- A STEP OF A PLAIN FRAME THAT RUNS, WHATEVER STANDS BEHIND ITS PIECE. -/
theorem step_sfx {S : FuncId → Bool} {P : Program} (hS : Shut P S) {fr : Frame} (hf : FrOk P S fr) (hm : fr.mode = .run) (hne : fr.todo ≠ []) {w : World} (hw : NPW w) :
    ∃ n o, OutOk P S fr w n o ∧ GivesX P fr o n w := by
  have hst : ∀ K main cs w, stepG P main (G (sfx K fr) cs) w = stepG.exec P main true (sfx K fr) cs none w := by
    intro K main cs w
    simp [stepG, G, sfx, hm]
  have hro : ∀ K, (sfx K fr).roundOf = none := fun K => hf.round
  cases ht : fr.todo with
  | nil => exact absurd ht hne
  | cons it k =>
    have htK : ∀ K, (sfx K fr).todo = it :: (k ++ K) := fun K => by simp [sfx, ht]
    have hit := hf.todo it (by rw [ht]; simp)
    have hk : ∀ x ∈ k, itemOk S x := fun x hx => hf.todo x (by rw [ht]; simp [hx])
    have to : ∀ todo, (∀ it ∈ todo, itemOk S it) → (∀ K main cs w, stepG.exec P main true (sfx K fr) cs none w = .go (G { (sfx K fr) with todo := todo ++ K } cs) w #[]) →
        ∃ n o, OutOk P S fr w n o ∧ GivesX P fr o n w :=
      fun todo h1 h2 => outx_next (fr' := { fr with todo }) hw (hf.with h1) rfl fun K main cs w => by rw [hst]; exact h2 K main cs w
    cases it with
    | code c =>
      cases c with
      | skip => exact to k hk fun K main cs w => by simp [stepG.exec, htK, G]
      | label l => exact to k hk fun K main cs w => by simp [stepG.exec, htK, G]
      | ret => exact outx_next hw hf.back rfl fun K main cs w => by rw [hst]; simp [stepG.exec, htK, hro, G]; simp [sfx, ht, hf.round]
      | refuse y => exact outx_bad hw fun main cs w => by rw [hst]; simp [stepG.exec, htK]
      | seq a b =>
        have hab : codeOk S a = true ∧ codeOk S b = true := by simpa [itemOk, codeOk] using hit
        exact to (.code a :: .code b :: k) (fun x hx => by
          rcases List.mem_cons.1 hx with rfl | hx
          · exact hab.1
          · rcases List.mem_cons.1 hx with rfl | hx
            · exact hab.2
            · exact hk x hx) fun K main cs w => by simp [stepG.exec, htK, G]
      | cond c a b =>
        have hab : codeOk S a = true ∧ codeOk S b = true := by simpa [itemOk, codeOk] using hit
        have hev : ∀ K, (sfx K fr).eval c = fr.eval c := fun K => by cases c <;> rfl
        cases hv : fr.eval c with
        | bool t =>
          exact to (.code (if t then a else b) :: k) (fun x hx => by
            rcases List.mem_cons.1 hx with rfl | hx
            · cases t
              · exact hab.2
              · exact hab.1
            · exact hk x hx) fun K main cs w => by simp [stepG.exec, htK, G, hev, hv]
        | _ => exact outx_bad hw fun main cs w => by rw [hst]; simp [stepG.exec, htK, hev, hv]
      | block id c =>
        have hc : codeOk S c = true := hit
        exact to (.code c :: .inBlock id :: k) (fun x hx => by
          rcases List.mem_cons.1 hx with rfl | hx
          · exact hc
          · rcases List.mem_cons.1 hx with rfl | hx
            · trivial
            · exact hk x hx) fun K main cs w => by simp [stepG.exec, htK, G]
      | loop c =>
        have hc : codeOk S c = true := hit
        exact to (.code c :: .inLoop c :: k) (fun x hx => by
          rcases List.mem_cons.1 hx with rfl | hx
          · exact hc
          · rcases List.mem_cons.1 hx with rfl | hx
            · exact hc
            · exact hk x hx) fun K main cs w => by simp [stepG.exec, htK, G]
      | scope c =>
        have hc : codeOk S c = true := hit
        exact to (.code c :: .inScope c :: k) (fun x hx => by
          rcases List.mem_cons.1 hx with rfl | hx
          · exact hc
          · rcases List.mem_cons.1 hx with rfl | hx
            · exact hc
            · exact hk x hx) fun K main cs w => by simp [stepG.exec, htK, G]
      | exit id =>
        cases he : exitTo id k with
        | none =>
          have he' := exitTo_app_none he
          exact outx_bad hw fun main cs w => by rw [hst]; simp [stepG.exec, htK, he', hro]
        | some k' => exact to k' (fun x hx => hk x (mem_exitTo he x hx)) fun K main cs w => by simp [stepG.exec, htK, G, exitTo_app K he]
      | goto l => exact Bool.noConfusion (show false = true from hit)
      | rangeFunc => exact Bool.noConfusion (show false = true from hit)
      | region id ops draw =>
        have hr : ∀ l, ∀ x ∈ Item.inRegion ops l :: k, itemOk S x := fun l x hx => by
          rcases List.mem_cons.1 hx with rfl | hx
          · exact hit
          · exact hk x hx
        cases draw with
        | false => exact to (.inRegion ops (List.range ops.size) :: k) (hr _) fun K main cs w => by simp [stepG.exec, htK, G]
        | true =>
          by_cases hq : (Question.order fr.fn id).forced = true
          · exact to (.inRegion ops (Region.schedule (P.follows .mixedOrders) ops 0) :: k) (hr _) fun K main cs w => by
              have hq' : (Question.order (sfx K fr).fn id).forced = true := hq
              simp [stepG.exec, htK, G, choose, Sem.run, hq']
          · refine ⟨1, .next { fr with todo := .inRegion ops (Region.schedule (P.follows .mixedOrders) ops ((Question.order fr.fn id).cut (w.tape w.drawn (.order fr.fn id)))) :: k } { w with drawn := w.drawn + 1 } #[],
              ⟨fun _ => rfl, fun _ => rfl, Nat.le_refl _, hw.eq rfl, ⟨rfl, rfl⟩, fun e he => by simp [Out.es] at he, hf.with (hr _), rfl⟩, fun K main cs τ d _ ha => ?_⟩
            have h0 := ha 0 (.order fr.fn id) (by omega)
            simp only [Nat.add_zero] at h0
            have hq' : ¬ (Question.order (sfx K fr).fn id).forced = true := hq
            have hfn : (sfx K fr).fn = fr.fn := rfl
            rw [hst]
            simp [Gives, Out.sfx, stepG.exec, htK, G, choose, Sem.run, hq', wt, h0, hfn]
            simp [hq, h0, sfx]
            exact ⟨rfl, rfl, rfl⟩
    | inBlock id => exact to k hk fun K main cs w => by simp [stepG.exec, htK, G]
    | inScope c => exact to k hk fun K main cs w => by simp [stepG.exec, htK, G]
    | inLoop c =>
      have hc : codeOk S c = true := hit
      exact to (.code c :: .inLoop c :: k) (fun x hx => by
        rcases List.mem_cons.1 hx with rfl | hx
        · exact hc
        · rcases List.mem_cons.1 hx with rfl | hx
          · exact hc
          · exact hk x hx) fun K main cs w => by simp [stepG.exec, htK, G]
    | inRegion ops l =>
      cases l with
      | nil => exact to k hk fun K main cs w => by simp [stepG.exec, htK, G]
      | cons i rest =>
        have htm : ∀ K, (sfx K fr).tmps = fr.tmps := fun K => rfl
        by_cases hwant : ((ops[i]?).map (Region.wanted · (yielded ops fr.tmps))).getD false = true
        · cases ho : ops[i]? with
          | none => rw [ho] at hwant; simp at hwant
          | some o =>
            have hok : opOk S o.op = true := by
              have := Array.all_eq_true.1 hit i (Array.getElem?_eq_some_iff.1 ho).1
              rw [(Array.getElem?_eq_some_iff.1 ho).2] at this
              exact this
            obtain ⟨n, out, h1, h2⟩ := applyx (pl_execOp (P := P) hS.2 fr.eval (fun f => rfl) o hok) hf hm hne (fun d r s k' e => by rw [ht] at e; cases e) w hw
            refine ⟨n, out, h1, fun K main cs τ d hK ha => ?_⟩
            have h3 := h2 K cs τ d hK ha
            rw [hst]
            have hev : (sfx K fr).eval = fr.eval := by funext x; cases x <;> rfl
            have e : stepG.exec P main true (sfx K fr) cs none (wt w τ d) = stepG.apply P true (sfx K fr) cs none (execOp fr.eval o) (wt w τ d) := by
              have hop : (sfx K fr).oper? = some o := by simp [Frame.oper?, htK, ho]
              rw [ho] at hwant
              simp [stepG.exec, htK, ho, stepG.oper, hop, hro, htm, hev] at hwant ⊢
              intro h; rw [hwant] at h; cases h
            rw [e]; exact h3
        · exact outx_next hw (hf.finish undef).1 (hf.finish undef).2 fun K main cs w => by
            rw [hst, ← finish_sfx hne]
            simp [stepG.exec, htK, htm, hwant, G]
    | _ => exact hit.elim
end Go.Proofs.Ytnahlemchajfdaa.Meta
namespace Go.Proofs.Ytnahlemchajfdaa.Meta
open Go Go.Conc

structure Sx where
  up : List Frame
  bt : Frame
  w : World

/-- The goroutine: above it the frames that the piece has called. -/
def Sx.top (s : Sx) (K : List Item) (C : List Frame) : Frame := match s.up with
  | [] => sfx K s.bt
  | fr :: _ => fr
def Sx.below (s : Sx) (K : List Item) (C : List Frame) : List Frame := match s.up with
  | [] => C
  | _ :: mid => mid ++ sfx K s.bt :: C

/-- The piece has been left. -/
def Sx.out (s : Sx) : Prop := s.up = [] ∧ (s.bt.todo = [] ∨ s.bt.mode = .returning)

def Sx.nx (P : Program) (s : Sx) (o : Out) : Option Sx := match s.up, o with
  | [], .next fr' w' _ => some ⟨[], fr', w'⟩
  | [], .enter f a w' _ => some ⟨[Frame.enter P f a .normal], s.bt, w'⟩
  | fr :: mid, .next fr' w' _ => some ⟨fr' :: mid, s.bt, w'⟩
  | fr :: mid, .enter f a w' _ => some ⟨Frame.enter P f a .normal :: fr :: mid, s.bt, w'⟩
  | [_], .leave v w' _ => some ⟨[], s.bt.finish v, w'⟩
  | _ :: m :: ms, .leave v w' _ => some ⟨m.finish v :: ms, s.bt, w'⟩
  | _, _ => none

section
variable (P : Program) (S : FuncId → Bool) (main : Bool) (Stop : Goroutine → World → Prop) (T : Nat → Question → Nat) (k : List Item) (C : List Frame)

structure BadX (s : Sx) : Prop where
  bt : FrOk P S s.bt
  up : ∀ x ∈ s.up, FrOk P S x
  rest : s.up ≠ [] → s.bt.todo ≠ [] ∧ s.bt.mode = .run
  np : NPW s.w
  tape : s.w.tape = T
  not : ¬ GoesW P main DP Stop (G (s.top k C) (s.below k C)) s.w

/-- What the top frame's step comes to. -/
def TopGives (s : Sx) (o : Out) (n : Nat) (w : World) : Prop := match s.up with
  | [] => OutOk P S s.bt w n o ∧ GivesX P s.bt o n w
  | fr :: _ => OutOk P S fr w n o ∧ ∀ main cs τ d, Agree w n τ d → Gives P fr o n (stepG P main (G fr cs) (wt w τ d)) cs τ d

structure DkX (s : Sx) (x : Nat × Nat × Out) : Prop where
  top : TopGives P S s x.2.2 x.2.1 (s.w.at x.1)
  not : ¬ ∃ g' w' es, stepG P main (G (s.top k C) (s.below k C)) (s.w.at x.1) = .go g' w' es ∧ DP (s.w.at x.1) w' es ∧ GoesW P main DP Stop g' w'
end

section
variable {P : Program} {S : FuncId → Bool} {main : Bool} {Stop : Goroutine → World → Prop} {T : Nat → Question → Nat} {k : List Item} {C : List Frame}

theorem BadX.dk (hS : Shut P S) {s : Sx} (h : BadX P S main Stop T k C s) (hout : ¬ s.out) : ∃ x, DkX P S main Stop k C s x := by
  have : ∃ d, ¬ ∃ g' w' es, stepG P main (G (s.top k C) (s.below k C)) (s.w.at d) = .go g' w' es ∧ DP (s.w.at d) w' es ∧ GoesW P main DP Stop g' w' := by
    refine Classical.byContradiction fun hn => h.not (GoesW.of rfl fun d => ?_)
    exact Classical.byContradiction fun hd => hn ⟨d, hd⟩
  obtain ⟨d, hd⟩ := this
  obtain ⟨up, bt, w⟩ := s
  cases up with
  | nil =>
    have hm : bt.mode = .run := (h.bt.mode).resolve_right fun e => hout ⟨rfl, .inr e⟩
    obtain ⟨n, o, h1, h2⟩ := step_sfx hS h.bt hm (fun e => hout ⟨rfl, .inl e⟩) (w := w.at d) (h.np.eq rfl)
    exact ⟨(d, n, o), ⟨h1, h2⟩, hd⟩
  | cons fr mid =>
    obtain ⟨n, o, h1, h2⟩ := step_plain hS (h.up fr (by simp)) (w := w.at d) (h.np.eq rfl)
    exact ⟨(d, n, o), ⟨h1, h2⟩, hd⟩

theorem todo_of_enter {fr : Frame} (h : fr.todo ≠ []) : fr.todo ≠ [] := h

theorem finish_mode {S : FuncId → Bool} {fr : Frame} (h : FrOk P S fr) (hm : fr.mode = .run) (v : Value) : (fr.finish v).mode = .run := by
  unfold Frame.finish
  split <;> exact hm

theorem BadX.next (hS : Shut P S) {s s' : Sx} (h : BadX P S main Stop T k C s) (hout : ¬ s.out) {x : Nat × Nat × Out} (hx : DkX P S main Stop k C s x) (hn : s.nx P x.2.2 = some s') : BadX P S main Stop T k C s' := by
  obtain ⟨d, n, o⟩ := x
  obtain ⟨htop, hnot⟩ := hx
  dsimp only at htop hnot hn
  have hT : (s.w.at d).tape = T := h.tape
  have hwat : wt (s.w.at d) T d = s.w.at d := wt_self h.tape rfl
  obtain ⟨up, bt, w⟩ := s
  have hag : Agree (w.at d) n T d := fun i q _ => by rw [hT]; rfl
  cases up with
  | nil =>
    obtain ⟨ho, hg⟩ := htop
    have hm : bt.mode = .run := (h.bt.mode).resolve_right fun e => hout ⟨rfl, .inr e⟩
    have hne : bt.todo ≠ [] := fun e => hout ⟨rfl, .inl e⟩
    have hgg : o ≠ .bad → Gives P (sfx k bt) (o.sfx k) n (stepG P main (G (sfx k bt) C) (wt (w.at d) T d)) C T d := fun hb => hg k main C T d (fun e => absurd e hb) hag
    have hnp := ho.np
    cases o with
    | next fr' w' es =>
      cases hn
      have e1 := ho.tape (by simp)
      have e2 := ho.drawn (by simp)
      have hw : wt w' T (d + n) = w' := wt_self (e1.trans hT) e2
      have hgg := hgg (by simp)
      rw [hwat] at hgg
      simp only [Gives, Out.sfx, hw] at hgg
      exact ⟨ho.ok.1, h.up, fun e => absurd rfl e, hnp, e1.trans hT, fun hgo => hnot ⟨_, _, _, hgg, ⟨ho.grows, e1, ho.os.1, ho.os.2, ho.evs⟩, hgo⟩⟩
    | enter f a w' es =>
      cases hn
      have e1 := ho.tape (by simp)
      have e2 := ho.drawn (by simp)
      have hw : wt w' T (d + n) = w' := wt_self (e1.trans hT) e2
      have hgg := hgg (by simp)
      rw [hwat] at hgg
      simp only [Gives, Out.sfx, hw] at hgg
      refine ⟨h.bt, fun x hx => ?_, fun _ => ⟨hne, hm⟩, hnp, e1.trans hT, fun hgo => hnot ⟨_, _, _, hgg, ⟨ho.grows, e1, ho.os.1, ho.os.2, ho.evs⟩, hgo⟩⟩
      obtain rfl : x = _ := List.mem_singleton.1 hx
      exact enter_ok hS ho.ok.1 a
    | leave v w' es => cases hn
    | raise ch fr' w' es => cases hn
    | bad => cases hn
  | cons fr mid =>
    obtain ⟨ho, hg⟩ := htop
    have hgg := hg main (mid ++ sfx k bt :: C) T d hag
    rw [hwat] at hgg
    have hnp := ho.np
    have hrest := h.rest (by simp)
    cases o with
    | next fr' w' es =>
      cases hn
      have e1 := ho.tape (by simp)
      have e2 := ho.drawn (by simp)
      have hw : wt w' T (d + n) = w' := wt_self (e1.trans hT) e2
      simp only [Gives, hw] at hgg
      refine ⟨h.bt, fun x hx => ?_, fun _ => hrest, hnp, e1.trans hT, fun hgo => hnot ⟨_, _, _, hgg, ⟨ho.grows, e1, ho.os.1, ho.os.2, ho.evs⟩, hgo⟩⟩
      rcases List.mem_cons.1 hx with rfl | hx
      · exact ho.ok.1
      · exact h.up x (by simp [hx])
    | enter f a w' es =>
      cases hn
      have e1 := ho.tape (by simp)
      have e2 := ho.drawn (by simp)
      have hw : wt w' T (d + n) = w' := wt_self (e1.trans hT) e2
      simp only [Gives, hw] at hgg
      refine ⟨h.bt, fun x hx => ?_, fun _ => hrest, hnp, e1.trans hT, fun hgo => hnot ⟨_, _, _, hgg, ⟨ho.grows, e1, ho.os.1, ho.os.2, ho.evs⟩, hgo⟩⟩
      rcases List.mem_cons.1 hx with rfl | hx
      · exact enter_ok hS ho.ok.1 a
      · exact h.up x (by simpa using hx)
    | leave v w' es =>
      have e1 := ho.tape (by simp)
      have e2 := ho.drawn (by simp)
      have hw : wt w' T (d + n) = w' := wt_self (e1.trans hT) e2
      cases mid with
      | nil =>
        cases hn
        have hgg' := hgg (sfx k bt) C rfl
        rw [hw, finish_sfx hrest.1] at hgg'
        exact ⟨(h.bt.finish v).1, fun x hx => by simp at hx, fun e => absurd rfl e, hnp, e1.trans hT, fun hgo => hnot ⟨_, _, _, hgg', ⟨ho.grows, e1, ho.os.1, ho.os.2, ho.evs⟩, hgo⟩⟩
      | cons m ms =>
        cases hn
        have hgg' := hgg m (ms ++ sfx k bt :: C) rfl
        rw [hw] at hgg'
        refine ⟨h.bt, fun x hx => ?_, fun _ => hrest, hnp, e1.trans hT, fun hgo => hnot ⟨_, _, _, hgg', ⟨ho.grows, e1, ho.os.1, ho.os.2, ho.evs⟩, hgo⟩⟩
        rcases List.mem_cons.1 hx with rfl | hx
        · exact ((h.up m (by simp)).finish v).1
        · exact h.up x (by simp [hx])
    | raise ch fr' w' es => cases mid <;> cases hn
    | bad => cases mid <;> cases hn

theorem ret_gives {fr : Frame} (hf : FrOk P S fr) (hm : fr.mode = .returning) (cs : List Frame) {w : World} (hw : NPW w) :
    (∃ x w' es, stepG P main (G fr cs) w = .ended x w' es) ∨ (∃ v w' es, ∀ c rest, cs = c :: rest → stepG P main (G fr cs) w = .go (G (c.finish v) rest) w' es) := by
  obtain ⟨fn, hfn⟩ := hf.fn
  obtain ⟨n1, n2⟩ := run_np (results fn fr.tmps) (pl_results (P := P) fn fr.tmps) w #[] hw
  have hun : stepG P main (G fr cs) w = unwind P main fr cs none w := by simp [stepG, G, hm]
  generalize hr : (results fn fr.tmps).runT P w #[] = r at n1 n2
  obtain ⟨res, es⟩ := r
  cases res with
  | ok v w' =>
    refine .inr ⟨v, w', seen P fr.fn es, fun c rest hcs => ?_⟩
    subst hcs
    rw [hun]
    unfold unwind
    simp only [hf.defers, hm, hfn, hr, GStep.after, doReturn, hf.kind, G, Array.append_empty]
  | halt x w' =>
    have hx := n2 x w' rfl
    refine .inl ?_
    rw [hun]
    cases x <;> first
      | exact hx.elim
      | (unfold unwind; simp only [hf.defers, hm, hfn, hr, GStep.after]; exact ⟨_, _, _, rfl⟩)

theorem halt0_ok {S : FuncId → Bool} {fr : Frame} (h : FrOk P S fr) : FrOk P S (sfx halt0 fr) :=
  ⟨fun it hit => by
    rcases List.mem_append.1 hit with hit | hit
    · exact h.todo it hit
    · obtain rfl : it = _ := List.mem_singleton.1 hit
      rfl, h.defers, h.kind, h.round, h.mode, h.fn, h.nr⟩

/-- A PLAIN PIECE OF CODE, WALKED ALONE ON WHATEVER TAPE, DOES SO IN COMPANY. -/
theorem lift_code (hS : Shut P S) {b : Frame} (hbk : b.kind = .normal) (hbf : ∃ fn, P.funcs[b.fn]? = some fn) {c : Code} (hc : codeOk S c = true) {a : Act} (hd : a.defers = []) {w0 : World} (hnp : NPW w0)
    {Q : Exit → Act → World → Prop} (hQ : ∀ e a' w', Q e a' w' → (e = .normal ∨ e = .ret) ∧ ∀ τ d, Q e a' (wt w' τ d)) (hlone : ∀ τ, c.wp P Q a (wt w0 τ 0))
    (hnext : ∀ e a' w', Q e a' w' → NPW w' → AfterW P main DP Stop b k C e a' w') : GoesW P main DP Stop (G (b.at a (.code c :: k)) C) w0 := by
  refine Classical.byContradiction fun hnot => ?_
  let T := w0.tape
  let s0 : Sx := ⟨[], b.at a [.code c], w0⟩
  have f0 : FrOk P S (b.at a [.code c]) := ⟨fun it hit => by
    obtain rfl : it = _ := List.mem_singleton.1 hit
    exact hc, hd, hbk, rfl, .inl rfl, hbf, hS.1⟩
  have b0 : BadX P S main Stop T k C s0 := ⟨f0, fun x hx => by simp [s0] at hx, fun e => absurd rfl e, hnp, rfl, hnot⟩
  have hdk : ∀ s : Sx, ∃ x, BadX P S main Stop T k C s → ¬ s.out → DkX P S main Stop k C s x := by
    intro s
    by_cases h : BadX P S main Stop T k C s ∧ ¬ s.out
    · obtain ⟨x, hx⟩ := h.1.dk hS h.2
      exact ⟨x, fun _ _ => hx⟩
    · exact ⟨(0, 0, .bad), fun h1 h2 => absurd ⟨h1, h2⟩ h⟩
  let dk : Sx → Nat × Nat × Out := fun s => (hdk s).choose
  have hdk' : ∀ s, BadX P S main Stop T k C s → ¬ s.out → DkX P S main Stop k C s (dk s) := fun s => (hdk s).choose_spec
  let nxt : Sx → Option Sx := fun s => @ite _ s.out (Classical.propDecidable _) none (s.nx P (dk s).2.2)
  have nxt_some : ∀ s s', nxt s = some s' → ¬ s.out ∧ s.nx P (dk s).2.2 = some s' := by
    intro s s' h
    by_cases ho : s.out
    · rw [show nxt s = none from if_pos ho] at h; cases h
    · rw [show nxt s = s.nx P (dk s).2.2 from if_neg ho] at h
      exact ⟨ho, h⟩
  let seq : Nat → Option Sx := fun n => Nat.rec (some s0) (fun _ o => o.bind nxt) n
  have seq0 : seq 0 = some s0 := rfl
  have seqS : ∀ n, seq (n + 1) = (seq n).bind nxt := fun n => rfl
  have hbad : ∀ n s, seq n = some s → BadX P S main Stop T k C s := by
    intro n
    induction n with
    | zero => intro s h; rw [seq0] at h; cases h; exact b0
    | succ n ih =>
      intro s' h
      rw [seqS] at h
      obtain ⟨s, hs, hn⟩ := Option.bind_eq_some_iff.1 h
      obtain ⟨ho, hn⟩ := nxt_some s s' hn
      exact (ih s hs).next hS ho (hdk' s (ih s hs) ho) hn
  let kk : Nat → Nat := fun n => match seq n with | some s => (dk s).2.1 | none => 0
  let dd : Nat → Nat := fun n => match seq n with | some s => (dk s).1 | none => 0
  let e : Nat → Nat := fun n => Nat.rec 0 (fun i x => x + kk i) n
  have eS : ∀ n, e (n + 1) = e n + kk n := fun n => rfl
  have emono : ∀ a b, a ≤ b → e a ≤ e b := by
    intro a b h
    induction h with
    | refl => exact Nat.le_refl _
    | step _ ih => rw [eS]; omega
  let τ : Nat → Question → Nat := fun p q => @dite Nat (∃ i, e i ≤ p ∧ p < e (i + 1)) (Classical.propDecidable _) (fun h => T (dd h.choose + (p - e h.choose)) q) (fun _ => 0)
  have hτ : ∀ i j q, j < kk i → τ (e i + j) q = T (dd i + j) q := by
    intro i j q hj
    have hex : ∃ i', e i' ≤ e i + j ∧ e i + j < e (i' + 1) := ⟨i, by omega, by rw [eS]; omega⟩
    have hch := hex.choose_spec
    have hi : hex.choose = i := by
      rcases Nat.lt_trichotomy hex.choose i with h | h | h
      · have := emono (hex.choose + 1) i (by omega)
        have := hch.2
        omega
      · exact h
      · have h5 := emono (i + 1) hex.choose (by omega)
        have h6 := hch.1
        rw [eS] at h5
        omega
    have h7 : τ (e i + j) q = T (dd hex.choose + (e i + j - e hex.choose)) q := @dif_pos _ (Classical.propDecidable _) hex _ _ _
    rw [h7, hi]
    congr 1
    omega
  -- the lone run on that tape
  let m0 : Machine := lone (b.at a (.code c :: halt0)) [c0] (wt w0 τ 0)
  have hag : ∀ n s, seq n = some s → Agree (s.w.at (dk s).1) (dk s).2.1 τ (e n) := by
    intro n s hs i q hi
    have hk : kk n = (dk s).2.1 := by simp only [kk, hs]
    have hd : dd n = (dk s).1 := by simp only [dd, hs]
    rw [hτ n i q (by rw [hk]; exact hi), hd]
    show T _ q = s.w.tape _ q
    rw [(hbad n s hs).tape]
    rfl
  have hrun : ∀ n s, seq n = some s → runN P n m0 = .next (lone (s.top halt0 [c0]) (s.below halt0 [c0]) (wt s.w τ (e n))) := by
    intro n
    induction n with
    | zero => intro s h; rw [seq0] at h; cases h; rfl
    | succ n ih =>
      intro s' h
      rw [seqS] at h
      obtain ⟨s, hs, hn⟩ := Option.bind_eq_some_iff.1 h
      obtain ⟨hout, hn⟩ := nxt_some s s' hn
      have hx := (hdk' s (hbad n s hs) hout).top
      have hk : kk n = (dk s).2.1 := by simp only [kk, hs]
      have hagn := hag n s hs
      have hrest := (hbad n s hs).rest
      rw [runN_add, ih s hs]
      have fin : step P (lone (s.top halt0 [c0]) (s.below halt0 [c0]) (wt s.w τ (e n))) = .next (lone (s'.top halt0 [c0]) (s'.below halt0 [c0]) (wt s'.w τ (e (n + 1)))) := by
        rw [eS, hk]
        generalize (dk s) = x at hx hn hagn
        obtain ⟨d, n', o⟩ := x
        obtain ⟨up, bt, w⟩ := s
        cases up with
        | nil =>
          have hg := hx.2 halt0 true [c0] τ (e n) (fun _ => rfl) hagn
          cases o with
          | next fr' w' es => cases hn; exact step_of_go hg
          | enter f a w' es => cases hn; exact step_of_go hg
          | leave v w' es => cases hn
          | raise ch fr' w' es => cases hn
          | bad => cases hn
        | cons fr mid =>
          have hg := hx.2 true (mid ++ sfx halt0 bt :: [c0]) τ (e n) hagn
          cases o with
          | next fr' w' es => cases hn; exact step_of_go hg
          | enter f a w' es => cases hn; exact step_of_go hg
          | leave v w' es =>
            cases mid with
            | nil =>
              cases hn
              have hgg := hg (sfx halt0 bt) [c0] rfl
              rw [finish_sfx (hrest (by simp)).1] at hgg
              exact step_of_go hgg
            | cons m ms => cases hn; exact step_of_go (hg m (ms ++ sfx halt0 bt :: [c0]) rfl)
          | raise ch fr' w' es => cases mid <;> cases hn
          | bad => cases mid <;> cases hn
      simp only [runN, fin]
  -- where it comes to
  obtain ⟨ex, a1, w1, hq1, harr⟩ := hlone τ b halt0 [c0]
  have hm0 : lone (b.at a (.code c :: halt0)) [c0] (wt w0 τ 0) = m0 := rfl
  rw [hm0] at harr
  obtain ⟨hex, hq1t⟩ := hQ ex a1 w1 hq1
  -- the frame there
  obtain ⟨N, fr1, hN, hfr1, hmode1⟩ : ∃ N fr1, runN P N m0 = .next (lone fr1 [c0] w1) ∧ ((ex = .normal ∧ fr1 = b.at a1 halt0) ∨ (ex = .ret ∧ ∃ todo, fr1 = { b.at a1 todo with mode := .returning })) ∧ ∀ ch, fr1.mode ≠ .panicking ch := by
    rcases hex with rfl | rfl
    · obtain ⟨N, hN⟩ := harr
      exact ⟨N, _, hN, .inl ⟨rfl, rfl⟩, fun ch h => by cases h⟩
    · obtain ⟨todo, N, hN⟩ := harr
      exact ⟨N, _, hN, .inr ⟨rfl, todo, rfl⟩, fun ch h => by cases h⟩
  cases hsN : seq N with
  | some s =>
    have hr := hrun N s hsN
    rw [hN] at hr
    injection hr with hr
    obtain ⟨h1, h2, h3⟩ := lone_inj hr
    have hb := hbad N s hsN
    obtain ⟨up, bt, w⟩ := s
    have hup : up = [] := by
      cases up with
      | nil => rfl
      | cons x y =>
        have := congrArg List.length h2
        simp [Sx.below] at this
    subst hup
    simp only [Sx.top] at h1
    have hQw : Q ex a1 w := by
      have := hq1t w.tape w.drawn
      rw [h3] at this
      exact this
    refine hb.not ?_
    have haft := hnext ex a1 w hQw hb.np
    show GoesW P main DP Stop (G (sfx k bt) C) w
    rcases hfr1 with ⟨rfl, rfl⟩ | ⟨rfl, todo, rfl⟩
    · have hbt : sfx k bt = b.at a1 k := by
        obtain ⟨fn, tmps, td, df, md, kd, ro⟩ := bt
        simp only [sfx, Frame.at, Frame.mk.injEq] at h1
        obtain ⟨h1a, h1b, h1c, h1d, h1e, h1f, h1g⟩ := h1
        have htd : td = [] := by
          have := congrArg List.length h1c
          simp at this
          exact this
        subst htd
        simp only [sfx, Frame.at, List.nil_append, h1a, h1b, h1d, h1e, h1f, h1g]
      rw [hbt]; exact haft
    · have hbt : sfx k bt = { b.at a1 (bt.todo ++ k) with mode := .returning } := by
        obtain ⟨fn, tmps, td, df, md, kd, ro⟩ := bt
        simp only [sfx, Frame.at, Frame.mk.injEq] at h1
        obtain ⟨h1a, h1b, h1c, h1d, h1e, h1f, h1g⟩ := h1
        simp only [sfx, Frame.at, h1a, h1b, h1d, h1e, h1f, h1g]
      rw [hbt]; exact haft (bt.todo ++ k)
  | none =>
    have hlast : ∀ n, seq n = none → ∃ i s, i < n ∧ seq i = some s ∧ nxt s = none := by
      intro n
      induction n with
      | zero => intro h; rw [seq0] at h; cases h
      | succ n ih =>
        intro h
        cases hs : seq n with
        | none => obtain ⟨i, s, hi, h'⟩ := ih hs; exact ⟨i, s, by omega, h'⟩
        | some s =>
          rw [seqS, hs] at h
          exact ⟨n, s, by omega, hs, h⟩
    obtain ⟨i, s, hi, hs, hn⟩ := hlast N hsN
    have hr := hrun i s hs
    have hb := hbad i s hs
    obtain ⟨r, rfl⟩ : ∃ r, N = i + (r + 1) := ⟨N - i - 1, by omega⟩
    rw [runN_add, hr] at hN
    dsimp only at hN
    by_cases hout : s.out
    · -- the piece has been left
      obtain ⟨up, bt, w⟩ := s
      obtain ⟨rfl, hob⟩ := hout
      simp only [Sx.top, Sx.below] at hN
      have hdead : bt.mode = .returning → False := by
        intro hret
        rcases ret_gives (main := true) (halt0_ok hb.bt) (show (sfx halt0 bt).mode = .returning from hret) [c0] (w := wt w τ (e i)) (hb.np.eq rfl) with ⟨x, w2, es, hx⟩ | ⟨v, w2, es, hx⟩
        · exact runN_ended (step_of_ended hx) r _ hN
        · have hst : step P (lone (sfx halt0 bt) [c0] (wt w τ (e i))) = .next (lone (c0.finish v) [] w2) := step_of_go (hx c0 [] rfl)
          simp only [runN, hst] at hN
          exact doomed_c0 [] rfl rfl r fr1 w1 hmode1 hN
      rcases hb.bt.mode with hrun' | hret
      · have htd : bt.todo = [] := hob.resolve_right fun h => by rw [hrun'] at h; cases h
        have ht0 : (sfx halt0 bt).todo = [.code (.refuse "")] := by simp [sfx, htd, halt0]
        have hm0' : (sfx halt0 bt).mode = .run := hrun'
        have hend : ∃ x w' es, stepG P true (G (sfx halt0 bt) [c0]) (wt w τ (e i)) = .ended x w' es :=
          by
            have hst : stepG P true (G (sfx halt0 bt) [c0]) (wt w τ (e i)) = stepG.exec P true true (sfx halt0 bt) [c0] none (wt w τ (e i)) := by simp [stepG, G, hm0']
            rw [hst]
            generalize sfx halt0 bt = fr0 at ht0
            simp [stepG.exec, ht0]
        obtain ⟨x, w2, es, hx⟩ := hend
        exact runN_ended (step_of_ended hx) r _ hN
      · exact hdead hret
    · have hx := (hdk' s hb hout).top
      have hn' : s.nx P (dk s).2.2 = none := by
        rw [show nxt s = s.nx P (dk s).2.2 from if_neg hout] at hn
        exact hn
      have hagi := hag i s hs
      generalize (dk s) = x at hx hn' hagi
      obtain ⟨d, n', o⟩ := x
      obtain ⟨up, bt, w⟩ := s
      cases up with
      | nil =>
        have hg := hx.2 halt0 true [c0] τ (e i) (fun _ => rfl) hagi
        have ho := hx.1
        cases o with
        | next fr' w' es => cases hn'
        | enter f a w' es => cases hn'
        | leave v w' es =>
          have hret : bt.mode = .returning := ho.ok
          exact hout ⟨rfl, .inr hret⟩
        | raise ch fr' w' es =>
          have hst := step_of_go hg
          have hst' : step P (lone (sfx halt0 bt) [c0] (wt w τ (e i))) = _ := hst
          simp only [Sx.top, Sx.below, runN, hst'] at hN
          obtain ⟨e1, e2, e3⟩ := ho.ok
          exact doomed_panic (S := S) [] (sfx halt0 fr') ch _ (fun x hx => by simp at hx) e1 e2 e3 r fr1 w1 hmode1 hN
        | bad =>
          obtain ⟨y, w2, es, hy⟩ := hg
          exact runN_ended (step_of_ended hy) r _ hN
      | cons fr mid =>
        have hg := hx.2 true (mid ++ sfx halt0 bt :: [c0]) τ (e i) hagi
        have ho := hx.1
        cases o with
        | next fr' w' es => cases hn'
        | enter f a w' es => cases hn'
        | leave v w' es => cases mid <;> cases hn'
        | raise ch fr' w' es =>
          have hst := step_of_go hg
          have hst' : step P (lone fr (mid ++ sfx halt0 bt :: [c0]) (wt w τ (e i))) = _ := hst
          simp only [Sx.top, Sx.below, runN, hst'] at hN
          have hcs : mid ++ sfx halt0 bt :: [c0] = (mid ++ [sfx halt0 bt]) ++ [c0] := by simp
          rw [hcs] at hN
          refine doomed_panic (S := S) (mid ++ [sfx halt0 bt]) fr' ch _ (fun x hx => ?_) ho.ok.1 ho.ok.2.1 ho.ok.2.2 r fr1 w1 hmode1 hN
          rcases List.mem_append.1 hx with hx | hx
          · exact hb.up x (by simp [hx])
          · obtain rfl : x = _ := List.mem_singleton.1 hx
            exact halt0_ok hb.bt
        | bad =>
          obtain ⟨y, w2, es, hy⟩ := hg
          exact runN_ended (step_of_ended hy) r _ hN
end
end Go.Proofs.Ytnahlemchajfdaa.Meta
namespace Go.Proofs.Ytnahlemchajfdaa.Meta
open Go Go.Conc
open Go.ConcN (sumTo)

/-- The step that ends the run, whatever has been drawn. -/
def EndsW (P : Program) (Post : Value → World → Prop) (g : Goroutine) (w : World) : Prop := ∀ d, AtEnd P NoShun w.heap.size Post g (w.at d)

section
variable {P : Program} {Post : Value → World → Prop}

/-- THE LAST WALK: THE RUN ENDS, WHATEVER THE TAPE. -/
theorem besideW_ends {a : Goroutine} {w : World} (h : GoesW P true DP (EndsW P Post) a w) {gs : Array Goroutine} {sl : Option (Nat × Nat)} {t : Trace} {q : Nat → Nat}
    (h0 : gs[0]? = some a) (hL : Leavers P t gs q) (hP : Past NoShun w.heap.size t) :
    ∃ N last o w' t', runNT P (N + 1) (crowd gs w sl) t = (.ended o w', t') ∧ runN P N (crowd gs w sl) = .next last ∧ step P last = .ended o w' ∧ Good P Post last o w' t' := by
  obtain ⟨N, gs', a', w', sl', t', q', hr, hsz, h0', hS, hL', hP', _⟩ := walkW_beside h (sumTo gs.size q) w.drawn gs sl t q (Nat.le_refl _) h0 hL hP
  have hw : w.at w.drawn = w := rfl
  rw [hw] at hr
  obtain ⟨M, last, o, w2, t2, e1, e2, e3, e4⟩ := beside_ends (P := P) (Shun := NoShun) (B := w'.heap.size) (D := fun _ _ es => ∀ e ∈ es, EvL NoShun w'.heap.size e) (Post := Post) (sl := sl') (n := 0) (fun _ _ _ h => h) h0' hL' hP'
    (by rintro w₁ ⟨d, rfl⟩; exact hS d)
  refine ⟨N + M, last, o, w2, t2, ?_, ?_, e3, e4⟩
  · rw [Nat.add_assoc, runNT_add, hr]; exact e1
  · rw [runN_add, ← runNT_fst P _ _ t, hr]; exact e2

/-- From the first frame on. -/
theorem alone_ends {f : FuncId} {args : Array Value} {w : World} (h : GoesW P true DP (EndsW P Post) (G (Frame.enter P f args .normal) []) w) :
    ∃ N last o w' t', runNT P (N + 1) (crowd #[G (Frame.enter P f args .normal) []] w none) #[] = (.ended o w', t') ∧ runN P N (crowd #[G (Frame.enter P f args .normal) []] w none) = .next last ∧ step P last = .ended o w' ∧ Good P Post last o w' t' :=
  besideW_ends h rfl (leavers_one P _) (past_nil.mono (Nat.zero_le _))

/-- The bottom frame's return ends the run. -/
theorem ends_leave {b : Frame} {a : Act} {w : World} {fn : Func} {v : Value} {todo : List Item} (hn : b.kind = .normal) (hd : a.defers = []) (hf : P.funcs[b.fn]? = some fn) (hi : P.inits.idxOf? b.fn = none)
    (hr : ResultsC P fn a.tmps v) (hp : ∀ d, Post v (w.at d)) : GoesW P true DP (EndsW P Post) (G { b.at a todo with mode := .returning } []) w := by
  refine .stop fun d d' => ⟨rfl, v, #[], ?_, fun e he => by simp at he, hp d'⟩
  have h1 := (hr ((w.at d).at d')).1
  have h2 := (hr ((w.at d).at d')).2
  simp [G, stepG, unwind, doReturn, Frame.at, hn, hd, hf, h1, h2, hi, seen, GStep.after]
end
end Go.Proofs.Ytnahlemchajfdaa.Meta
namespace Go.Proofs.Ytnahlemchajfdaa.Meta
open Go Go.Conc
open Go.ConcN (sumTo)

/-! The run from one place of goroutine 0's to another, beside leavers, whatever it starts and ends in between. -/

/-- FROM HERE THE RUN COMES TO A STOP, ON WHATEVER TAPE, BESIDE WHATEVER LEAVERS. -/
def GoesC (P : Program) (Stop : Goroutine → World → Prop) (g : Goroutine) (w : World) : Prop :=
  ∀ (τ : Nat → Question → Nat) (d : Nat) (gs : Array Goroutine) (sl : Option (Nat × Nat)) (t : Trace) (q : Nat → Nat), gs[0]? = some g → Leavers P t gs q → Past NoShun w.heap.size t →
    ∃ (N : Nat) (gs' : Array Goroutine) (a' : Goroutine) (w' : World) (sl' : Option (Nat × Nat)) (t' : Trace) (q' : Nat → Nat),
      runNT P N (crowd gs (wt w τ d) sl) t = (.next (crowd gs' w' sl'), t') ∧ Kept (wt w τ d) w' ∧ gs'[0]? = some a' ∧ Stop a' w' ∧ Leavers P t' gs' q' ∧ Past NoShun w'.heap.size t'

section
variable {P : Program} {Stop : Goroutine → World → Prop} {g : Goroutine} {w : World}

theorem runNT_tr {P : Program} {m m' m'' : Machine} {t t' t'' : Trace} {N K : Nat} (h : runNT P N m t = (.next m', t')) (hk : runNT P K m' t' = (.next m'', t'')) : runNT P (N + K) m t = (.next m'', t'') := by
  rw [runNT_add, h]; exact hk

theorem GoesC.wt (h : GoesC P Stop g w) (τ : Nat → Question → Nat) (d : Nat) : GoesC P Stop g (wt w τ d) := fun τ' d' gs sl t q h0 hL hP => h τ' d' gs sl t q h0 hL hP
theorem GoesC.stop (h : ∀ τ d, Stop g (Go.Proofs.Ytnahlemchajfdaa.Meta.wt w τ d)) : GoesC P Stop g w :=
  fun τ d gs sl t q h0 hL hP => ⟨0, gs, g, Go.Proofs.Ytnahlemchajfdaa.Meta.wt w τ d, sl, t, q, rfl, .refl _, h0, h τ d, hL, hP⟩
theorem GoesC.trans (h : GoesC P (GoesC P Stop) g w) : GoesC P Stop g w := by
  intro τ d gs sl t q h0 hL hP
  obtain ⟨N, gs1, a1, w1, sl1, t1, q1, hr, hk, h01, hs, hL1, hP1⟩ := h τ d gs sl t q h0 hL hP
  obtain ⟨M, gs2, a2, w2, sl2, t2, q2, hr2, hk2, h02, hs2, hL2, hP2⟩ := hs w1.tape w1.drawn gs1 sl1 t1 q1 h01 hL1 hP1
  exact ⟨N + M, gs2, a2, w2, sl2, t2, q2, runNT_tr hr hr2, hk.trans hk2, h02, hs2, hL2, hP2⟩
theorem GoesC.mono {Stop' : Goroutine → World → Prop} (h : GoesC P Stop g w) (hs : ∀ g w, Stop g w → Stop' g w) : GoesC P Stop' g w := by
  intro τ d gs sl t q h0 hL hP
  obtain ⟨N, gs1, a1, w1, sl1, t1, q1, hr, hk, h01, h2, hL1, hP1⟩ := h τ d gs sl t q h0 hL hP
  exact ⟨N, gs1, a1, w1, sl1, t1, q1, hr, hk, h01, hs _ _ h2, hL1, hP1⟩
/-- By a walk of its own. -/
theorem GoesC.of_W (h : ∀ τ, GoesW P true DP (GoesC P Stop) g (Go.Proofs.Ytnahlemchajfdaa.Meta.wt w τ 0)) : GoesC P Stop g w := by
  refine GoesC.trans fun τ d gs sl t q h0 hL hP => ?_
  obtain ⟨N, gs', a', w', sl', t', q', hr, _, h0', hS, hL', hP', hK⟩ := walkW_beside (h τ) (sumTo gs.size q) d gs sl t q (Nat.le_refl _) h0 hL hP
  exact ⟨N, gs', a', w', sl', t', q', hr, hK, h0', hS, hL', hP'⟩
theorem GoesC.at0 (h : GoesC P Stop g w) : GoesW P true DP (GoesC P Stop) g w := .stop fun d => h.wt w.tape d

/-- A step that looks at no world. -/
theorem GoesC.still {g' : Goroutine} (hr : g.status = .running) (h : ∀ w, stepG P true g w = .go g' w #[]) (hg : GoesC P Stop g' w) : GoesC P Stop g w :=
  .of_W fun τ => .still dp_idle hr h (hg.wt τ 0).at0
end

/-- A CONTRACT WHOSE FUNCTION MAY START GOROUTINES OF ITS OWN. -/
def CallsC (P : Program) (f : FuncId) (args : Array Value) (w : World) (Post : Value → World → Prop) : Prop :=
  ∀ (Stop : Goroutine → World → Prop) (c : Frame) (rest : List Frame), NPW w → (∀ v w', Post v w' → NPW w' → GoesC P Stop (G (c.finish v) rest) w') →
    GoesC P Stop (G (Frame.enter P f args .normal) (c :: rest)) w

section
variable {P : Program} {Stop : Goroutine → World → Prop} {b : Frame} {a : Act} {k : List Item} {cs : List Frame} {w : World}

theorem CallsC.mono {f : FuncId} {args : Array Value} {Post Post' : Value → World → Prop} (h : CallsC P f args w Post) (hp : ∀ v w', Post v w' → Post' v w') : CallsC P f args w Post' :=
  fun Stop c rest hn hnext => h Stop c rest hn fun v w' q => hnext v w' (hp v w' q)

/-- By a lone contract of a plain function. -/
theorem CallsC.of_lone {S : FuncId → Bool} (hS : Shut P S) {f : FuncId} (hf : S f = true) {args : Array Value} {Post : Value → World → Prop}
    (hpost : ∀ v w τ d, Post v w → Post v (wt w τ d)) (hlone : ∀ τ, Calls P f args (wt w τ 0) fun e w' => ∃ v, e = .returned v ∧ Post v w') : CallsC P f args w Post :=
  fun Stop c rest hn hnext => .of_W fun τ => lift hS hf (hn.eq rfl) hpost hlone fun v w' hp hn' => (hnext v w' hp hn').at0

theorem gc_seq {x y : Code} (h : GoesC P Stop (G (b.at a (.code x :: .code y :: k)) cs) w) : GoesC P Stop (G (b.at a (.code (.seq x y) :: k)) cs) w := .still rfl (fun w => stepG_seq) h
theorem gc_skip (h : GoesC P Stop (G (b.at a k) cs) w) : GoesC P Stop (G (b.at a (.code .skip :: k)) cs) w := .still rfl (fun w => stepG_skip) h
theorem gc_label {l : Nat} (h : GoesC P Stop (G (b.at a k) cs) w) : GoesC P Stop (G (b.at a (.code (.label l) :: k)) cs) w := .still rfl (fun w => stepG_label) h
theorem gc_cond {c : Operand} {x y : Code} {t : Bool} (hc : a.eval c = .bool t) (h : GoesC P Stop (G (b.at a (.code (if t then x else y) :: k)) cs) w) : GoesC P Stop (G (b.at a (.code (.cond c x y) :: k)) cs) w :=
  .still rfl (fun w => stepG_cond hc) h
theorem gc_block {id : Nat} {c : Code} (h : GoesC P Stop (G (b.at a (.code c :: .inBlock id :: k)) cs) w) : GoesC P Stop (G (b.at a (.code (.block id c) :: k)) cs) w := .still rfl (fun w => stepG_block) h
theorem gc_inBlock {id : Nat} (h : GoesC P Stop (G (b.at a k) cs) w) : GoesC P Stop (G (b.at a (.inBlock id :: k)) cs) w := .still rfl (fun w => stepG_inBlock) h
theorem gc_exit {id : Nat} {k' : List Item} (hk : exitTo id k = some k') (h : GoesC P Stop (G (b.at a k') cs) w) : GoesC P Stop (G (b.at a (.code (.exit id) :: k)) cs) w := .still rfl (fun w => stepG_exit hk) h
theorem gc_loop {c : Code} (h : GoesC P Stop (G (b.at a (.code c :: .inLoop c :: k)) cs) w) : GoesC P Stop (G (b.at a (.code (.loop c) :: k)) cs) w := .still rfl (fun w => stepG_loop) h
theorem gc_inLoop {c : Code} (h : GoesC P Stop (G (b.at a (.code c :: .inLoop c :: k)) cs) w) : GoesC P Stop (G (b.at a (.inLoop c :: k)) cs) w := .still rfl (fun w => stepG_inLoop) h
theorem gc_region {id : Nat} {ops : Array Oper} (h : GoesC P Stop (G (b.at a (.inRegion ops (List.range ops.size) :: k)) cs) w) : GoesC P Stop (G (b.at a (.code (.region id ops false) :: k)) cs) w := .still rfl (fun w => stepG_region) h
theorem gc_nil {ops : Array Oper} (h : GoesC P Stop (G (b.at a k) cs) w) : GoesC P Stop (G (b.at a (.inRegion ops [] :: k)) cs) w := .still rfl (fun w => stepG_region_end) h
theorem gc_unwanted {ops : Array Oper} {i : Nat} {rest : List Nat} {o : Oper} (ho : ops[i]? = some o) (hw : Region.wanted o (yielded ops a.tmps) = false)
    (h : GoesC P Stop (G (b.at (a.put o.dst undef) (.inRegion ops rest :: k)) cs) w) : GoesC P Stop (G (b.at a (.inRegion ops (i :: rest) :: k)) cs) w := .still rfl (fun w => stepG_unwanted ho hw) h
theorem gc_ret (h : ∀ todo, GoesC P Stop (G { b.at a todo with mode := .returning } cs) w) : GoesC P Stop (G (b.at a (.code .ret :: k)) cs) w := .still rfl (fun w => stepG_ret') (h (.code .ret :: k))
theorem gc_end (h : GoesC P Stop (G { b.at a [] with mode := .returning } cs) w) : GoesC P Stop (G (b.at a []) cs) w := .still rfl (fun w => stepG_end) h

/-- The return to a caller. -/
theorem gc_leave {fn : Func} {v : Value} {c : Frame} {rest : List Frame} (hbk : b.kind = .normal) (hbf : P.funcs[b.fn]? = some fn) (hd : a.defers = []) (hr : ∀ τ d, (results fn a.tmps).run P (wt w τ d) = .ok v (wt w τ d))
    (h : GoesC P Stop (G (c.finish v) rest) w) : GoesC P Stop (G { b.at a k with mode := .returning } (c :: rest)) w :=
  .of_W fun τ => goesW_leave (fun d => ⟨rfl, hd, hbk, fn, hbf, hr τ d⟩) (h.wt τ 0).at0

/-- A PLAIN PIECE OF CODE. `K`: it is left; `R`: it returns. -/
theorem gc_code {S : FuncId → Bool} (hS : Shut P S) (hbk : b.kind = .normal) (hbf : ∃ fn, P.funcs[b.fn]? = some fn) {c : Code} (hc : codeOk S c = true) (hd : a.defers = []) (hn : NPW w)
    (h : ∀ (K : Act → World → Prop) (R : Exit → Act → World → Prop), (∀ a' w', (NPW w' → GoesC P Stop (G (b.at a' k) cs) w') → K a' w') →
      (∀ a' w', (NPW w' → ∀ todo, GoesC P Stop (G { b.at a' todo with mode := .returning } cs) w') → R .ret a' w') → ∀ τ, c.wp P (Exit.then K R) a (wt w τ 0)) :
    GoesC P Stop (G (b.at a (.code c :: k)) cs) w := by
  refine .of_W fun τ0 => ?_
  refine lift_code hS hbk hbf hc hd (hn.eq rfl)
    (Q := Exit.then (fun a' w' => NPW w' → GoesC P Stop (G (b.at a' k) cs) w') (fun e a' w' => e = .ret ∧ (NPW w' → ∀ todo, GoesC P Stop (G { b.at a' todo with mode := .returning } cs) w')))
    (fun e a' w' q => ?_) (fun τ => h _ _ (fun a' w' q => q) (fun a' w' q => ⟨rfl, q⟩) τ) (fun e a' w' q hn' => ?_)
  · cases e with
    | normal => exact ⟨.inl rfl, fun τ d => fun hn' => (q (hn'.eq rfl)).wt τ d⟩
    | ret => exact ⟨.inr rfl, fun τ d => ⟨rfl, fun hn' todo => (q.2 (hn'.eq rfl) todo).wt τ d⟩⟩
    | _ => exact absurd q.1 (by simp)
  · cases e with
    | normal => exact (q hn').at0
    | ret => exact fun todo => (q.2 hn' todo).at0
    | _ => exact absurd q.1 (by simp)

/-- AN OPERATION THAT CALLS NOTHING. -/
theorem gc_op {ops : Array Oper} {i : Nat} {rest : List Nat} {o : Oper} (hbk : b.kind = .normal) (hp : opOk (fun _ => false) o.op = true) (ho : ops[i]? = some o) (hw : Region.wanted o (yielded ops a.tmps) = true) (hn : NPW w)
    (h : ∀ (K : Act → World → Prop), (∀ a' w', (NPW w' → GoesC P Stop (G (b.at a' (.inRegion ops rest :: k)) cs) w') → K a' w') → ∀ τ d, o.wp P a (wt w τ d) K (fun _ _ _ => False)) :
    GoesC P Stop (G (b.at a (.inRegion ops (i :: rest) :: k)) cs) w := by
  refine .of_W fun τ => .of rfl fun d => ?_
  have hd := h _ (fun a' w' q => q) τ d
  unfold Oper.wp at hd
  have hk : b.kind ≠ .early := by rw [hbk]; simp
  generalize hr : (execOp a.eval o).run P (wt w τ d) = r at hd
  cases r with
  | halt x w' => cases x <;> simp [Oper.upon] at hd
  | ok n w' =>
    have hdp := dp_op (fn := b.fn) hp (hn.eq (w1 := wt w τ d) rfl) hr
    cases n with
    | value v => exact ⟨_, _, _, stepG_value ho hw hk hr, hdp.2, ((hd : NPW w' → _) hdp.1).at0⟩
    | skip => exact ⟨_, _, _, stepG_none ho hw hk hr, hdp.2, ((hd : NPW w' → _) hdp.1).at0⟩
    | enter f args =>
      exfalso
      have hpl := pl_execOp (P := P) (shut_none P) a.eval (fun f => rfl) o hp
      have := run_post _ hpl (wt w τ d) #[]
      rw [Sem.runT_eq] at this
      have h2 := this _ _ hr
      cases h2
    | _ =>
      exfalso
      have hpl := pl_execOp (P := P) (shut_none P) a.eval (fun f => rfl) o hp
      have := run_post _ hpl (wt w τ d) #[]
      rw [Sem.runT_eq] at this
      exact this _ _ hr

/-- A CALL BY CONTRACT. -/
theorem gc_call {ops : Array Oper} {i : Nat} {rest : List Nat} {o : Oper} {f : FuncId} {fn' : Func} {code : Code} {args : Array Operand} {ats : Array TypeId} {Post : Value → World → Prop}
    (hbk : b.kind = .normal) (ho : ops[i]? = some o) (hw : Region.wanted o (yielded ops a.tmps) = true) (hop : o.op = .call { callee := .value (.func f), args, argTypes := ats })
    (hf : P.funcs[f]? = some fn') (hname : (fn'.name == "runtime.NumGoroutine") = false) (hb : fn'.body = some code) (hn : NPW w)
    (hcall : CallsC P f (args.map a.eval) w Post) (hnext : ∀ v w', Post v w' → NPW w' → GoesC P Stop (G (b.at (a.put o.dst v) (.inRegion ops rest :: k)) cs) w') :
    GoesC P Stop (G (b.at a (.inRegion ops (i :: rest) :: k)) cs) w := by
  have hb' : fn'.body.isNone = false := by rw [hb]; rfl
  have hk : b.kind ≠ .early := by rw [hbk]; simp
  have hfin : ∀ v, (b.at a (.inRegion ops (i :: rest) :: k)).finish v = b.at (a.put o.dst v) (.inRegion ops rest :: k) := fun v => by rw [Frame.finish_at, ho]; rfl
  refine .still rfl (fun w => ?_) (hcall Stop (b.at a (.inRegion ops (i :: rest) :: k)) cs hn fun v w' q hn' => by rw [hfin]; exact hnext v w' q hn')
  rw [stepG_enter ho hw hk (run_call_body hop hf hname hb')]
  have : listed P b.fn a o w = #[] := by unfold listed; rw [events_call_body hop hf hname hb']; exact seen_none P _
  rw [this]

/-- A function with a body is entered. -/
theorem CallsC.of_body {f : FuncId} {fn : Func} {code : Code} {args : Array Value} {Post : Value → World → Prop} (hf : P.funcs[f]? = some fn) (hb : fn.body = some code)
    (h : ∀ (Stop : Goroutine → World → Prop) (c : Frame) (rest : List Frame), NPW w → (∀ v w', Post v w' → NPW w' → GoesC P Stop (G (c.finish v) rest) w') →
      GoesC P Stop (G ((base f).at { tmps := args ++ Array.replicate (fn.ntmps - args.size) undef, defers := [] } [.code code]) (c :: rest)) w) : CallsC P f args w Post := by
  intro Stop c rest hn hnext
  rw [enter_at args hf hb]
  exact h Stop c rest hn hnext

/-- THE WHOLE RUN. -/
theorem goesC_run {f : FuncId} {args : Array Value} {Post PostH : Value → World → Prop} (hp : ∀ v w', PostH v w' → Kept w w' → Post v w')
    (h : GoesC P (EndsW P PostH) (G (Frame.enter P f args .normal) []) w) :
    ∃ N last o w' t', runNT P (N + 1) (crowd #[G (Frame.enter P f args .normal) []] w none) #[] = (.ended o w', t') ∧ runN P N (crowd #[G (Frame.enter P f args .normal) []] w none) = .next last ∧ step P last = .ended o w' ∧ Good P Post last o w' t' := by
  obtain ⟨N, gs', a', w', sl', t', q', hr, hk, h0, hS, hL, hP⟩ := h w.tape w.drawn #[G (Frame.enter P f args .normal) []] none #[] (fun _ => 0) rfl (leavers_one P _) (past_nil.mono (Nat.zero_le _))
  have hw : wt w w.tape w.drawn = w := rfl
  rw [hw] at hr hk
  have hE : EndsW P Post a' w' := by
    intro d
    obtain ⟨h1, v, es, h2, h3, h4⟩ := hS d
    exact ⟨h1, v, es, h2, h3, hp v _ h4 ⟨hk.1, hk.2.1, hk.2.2⟩⟩
  obtain ⟨M, last, o, w2, t2, e1, e2, e3, e4⟩ := besideW_ends (.stop fun d d' => hE d') h0 hL hP
  refine ⟨N + M, last, o, w2, t2, ?_, ?_, e3, e4⟩
  · rw [Nat.add_assoc, runNT_add, hr]; exact e1
  · rw [runN_add, ← runNT_fst P _ _ #[], hr]; exact e2
end
end Go.Proofs.Ytnahlemchajfdaa.Meta
namespace Go.Proofs.Ytnahlemchajfdaa.Meta
open Go Go.Conc

section
variable {Still : Loc → Prop} {Mem Loose : Nat → Prop} {B h j : Nat} {t u : Trace}

/-- Operations that touch nothing, whoever makes them: a meeting of a send and a receive, in use. -/
theorem pastH_quiet (H : PastH Still Mem Loose B h t) (hn : ∀ op ∈ u, op.act.touch? = none) (hq : ∀ g, ∀ op ∈ u, ∀ d, deafStep g d op = d) (hl : ∀ op ∈ u, op.act.low B) : PastH Still Mem Loose B h (t ++ u) := by
  refine ⟨fun said => noRace_appendMute (H.clean said) hn, fun i a hi hm => ?_, fun i a hi hw hS g hg => ?_, fun g hg => (Deaf_quiet (hq g)).trans (H.hears g hg), seen_app H.seen hl⟩
  · obtain ⟨x, hx, hxa⟩ := touch_of hi
    rcases getElem?_append_cases hx with ⟨_, hx'⟩ | ⟨_, hxu⟩
    · exact PastG.old_known H (fun i => Knows.app u) hx' hxa hm
    · rw [hn x hxu] at hxa; cases hxa
  · obtain ⟨x, hx, hxa⟩ := touch_of hi
    rcases getElem?_append_cases hx with ⟨_, hx'⟩ | ⟨_, hxu⟩
    · exact (H.wrote i a (by rw [touchAt_of hx']; exact hxa) hw hS g hg).app u
    · rw [hn x hxu] at hxa; cases hxa

/-- THE LOOSE MEMBER HAS CLOSED c BEHIND ALL THAT IT READ, AND THE HOLDER FINDS IT CLOSED: the holder knows all; nobody is loose. -/
theorem pastH_found {m c : Nat} (H : PastH Still Mem Loose B h t) (hh : Mem h) {z : MemOp} (hz : t[m]? = some z) (hzg : z.g = j) (hza : z.act = .close c) (hzd : t.deaf j m = 0)
    (hall : ∀ i a g, touchAt t i = some a → t.g? i = some g → Loose g → g = j ∧ i < m) (fj : FuncId) (pj : String) (hc : c < B) :
    PastH Still Mem (fun _ => False) B h (t ++ #[{ g := h, fn := fj, pos := pj, act := .recvClosed c }]) := by
  generalize hu : (#[{ g := h, fn := fj, pos := pj, act := .recvClosed c }] : Trace) = u
  have hlt := lt_size_of_getElem? hz
  have hn : ∀ op ∈ u, op.act.touch? = none := by
    intro op hop
    subst hu
    simp only [List.mem_toArray, List.mem_cons, List.not_mem_nil, or_false] at hop
    subst hop; rfl
  have hq : ∀ g, ∀ op ∈ u, ∀ d, deafStep g d op = d := by
    intro g op hop d
    subst hu
    simp only [List.mem_toArray, List.mem_cons, List.not_mem_nil, or_false] at hop
    subst hop; rfl
  have hl : ∀ op ∈ u, op.act.low B := by
    intro op hop
    subst hu
    simp only [List.mem_toArray, List.mem_cons, List.not_mem_nil, or_false] at hop
    subst hop; exact hc
  have e0 : (t ++ u)[t.size]? = some { g := h, fn := fj, pos := pj, act := .recvClosed c } := by subst hu; simp
  have ez : (t ++ u)[m]? = some z := by rw [getElem?_append_old hlt]; exact hz
  have hhm : (t ++ u).heard m := ⟨j, by rw [g?_of ez, hzg], by rw [deaf_old (Nat.le_of_lt hlt)]; exact hzd⟩
  have edge : HappensBefore (t ++ u) m t.size :=
    Relation.TransGen.single (.inr ⟨.closed (by rw [act?_of ez, hza]) (act?_of e0), hhm, ⟨h, g?_of e0, by rw [deaf_old (Nat.le_refl _)]; exact H.hears h hh⟩⟩)
  have H' := pastH_quiet H hn hq hl
  refine ⟨H'.clean, fun i a hi hm => ?_, H'.wrote, H'.hears, H'.seen⟩
  rcases H'.known i a hi hm with hk | ⟨_, _, g, hg, hlo⟩
  · exact .inl hk
  · obtain ⟨x, hx, hxa⟩ := touch_of hi
    rcases getElem?_append_cases hx with ⟨hil, hx'⟩ | ⟨_, hxu⟩
    · rw [g?_old hil] at hg
      obtain ⟨rfl, him⟩ := hall i a g (by rw [touchAt_of hx']; exact hxa) hg hlo
      have hxg : x.g = g := by have := g?_of hx'; rw [hg] at this; exact (Option.some.inj this).symm
      exact .inl ⟨t.size, _, e0, rfl, .inr ((hb_po him hx ez (hxg.trans hzg.symm)).trans edge)⟩
    · rw [hn x hxu] at hxa; cases hxa
end
end Go.Proofs.Ytnahlemchajfdaa.Meta
namespace Go.Proofs.Ytnahlemchajfdaa.Meta
open Go Go.Conc
open Go.ConcN (sumTo upd sumTo_upd upd_ne upd_same)

section
variable (P : Program) (K : World → Prop) (Still : Loc → Prop) (c : Nat) (v z : Value) (X : Goroutine → Prop)

/-- What a pure worker may list: reads of still places. -/
def RdEv (B : Nat) (e : Event) : Prop := (∀ b, (MemAct.ofEvent e).touch? = some b → b.write = false ∧ Still b.loc) ∧ e.loc ≠ .mark .disable ∧ e.loc ≠ .mark .enable ∧ (MemAct.ofEvent e).low B
/-- It stands at its send of v on channel c. -/
def SendAt (g : Goroutine) : Prop := g.status = .running ∧ (∀ w, K w → stepG P false g w = .comm g #[scase c v z] true .send w #[]) ∧ X g
/-- A pure worker, at most n steps from its send. -/
def PureN (B : Nat) : Nat → Goroutine → Prop
  | 0, g => SendAt P K c v z X g
  | n + 1, g => SendAt P K c v z X g ∨ (g.status = .running ∧ ∃ g', (∀ w, K w → ∃ d es, (∀ e ∈ es, RdEv Still B e) ∧ stepG P false g w = .go g' (w.at d) es) ∧ PureN B n g')
/-- On its way, or parked. -/
def Wst (B m : Nat) (g : Goroutine) : Prop := (∃ n, m = n + 1 ∧ PureN P K Still c v z X B n g) ∨ (m = 0 ∧ ∃ g0, g = parked g0 #[scase c v z] .send ∧ SendAt P K c v z X g0)

structure PhInv (B j m : Nat) (gs : Array Goroutine) (w : World) (t : Trace) (q : Nat → Nat) : Prop where
  wk : ∃ g, gs[j]? = some g ∧ Wst P K Still c v z X B m g
  old : ∀ i g, 0 < i → i ≠ j → gs[i]? = some g → QuitsD P (q i) (Deaf t i) g
  above : ∀ i, gs.size ≤ i → Deaf t i = 0
  past : PastH Still (fun g => g = 0 ∨ g = j) (fun g => g = j) w.heap.size 0 t
  chan : ∃ s r tm, w.heap[c]? = some (.chan 0 #[] false s r tm)
  keep : K w
  low : B ≤ w.heap.size
end

/-- What is asked of the holder's steps while the worker is about. -/
def DX (K : World → Prop) (Still : Loc → Prop) (c : Nat) (w w' : World) (es : Array Event) : Prop :=
  w.heap.size ≤ w'.heap.size ∧ (∀ e ∈ es, EvOk w'.heap.size e) ∧ (∀ e ∈ es, ∀ b, (MemAct.ofEvent e).touch? = some b → Still b.loc → b.write = false) ∧ (K w → K w') ∧ w'.heap[c]? = w.heap[c]?

section
variable {P : Program} {K : World → Prop} {Still : Loc → Prop} {c : Nat} {v z : Value} {X : Goroutine → Prop} {B j : Nat} {Stop : Goroutine → World → Prop} {D : World → World → Array Event → Prop}

theorem PureN.running {n : Nat} {g : Goroutine} (h : PureN P K Still c v z X B n g) : g.status = .running := by
  cases n with
  | zero => exact h.1
  | succ n => exact h.elim (fun x => x.1) fun x => x.1
theorem Wst.status {m : Nat} {g : Goroutine} (h : Wst P K Still c v z X B m g) : g.status = .running ∨ g.status = .blocked := by
  rcases h with ⟨n, _, h⟩ | ⟨_, g0, rfl, _⟩
  · exact .inl h.running
  · exact .inr rfl
theorem Wst.woken {m : Nat} {g a a' : Goroutine} {w : World} (h : Wst P K Still c v z X B m g) (hc : ∃ s r tm, w.heap[c]? = some (.chan 0 #[] false s r tm)) : woken P a a' w g = g := by
  obtain ⟨s, r, tm, hc⟩ := hc
  rcases h with ⟨n, _, h⟩ | ⟨_, g0, rfl, _⟩
  · exact woken_run h.running
  · exact woken_send_open a a' hc

/-- THE HOLDER's WALK WHILE A PURE WORKER IS ON ITS WAY TO ITS SEND, OR PARKED THERE, AND OTHERS LEAVE. -/
theorem walk_with (hKat : ∀ w d, K w → K (w.at d)) (hD : ∀ w w' es, D w w' es → DX K Still c w w' es) (hkp : ∀ w w' es, D w w' es → Kept w w') (hj0 : j ≠ 0) {a : Goroutine} {w : World} (h : GoesW P true D Stop a w) :
    ∀ (M m d0 : Nat) (gs : Array Goroutine) (sl : Option (Nat × Nat)) (t : Trace) (q : Nat → Nat), sumTo gs.size q + m ≤ M → gs[0]? = some a → PhInv P K Still c v z X B j m gs (w.at d0) t q →
      ∃ (N : Nat) (gs' : Array Goroutine) (a' : Goroutine) (w' : World) (sl' : Option (Nat × Nat)) (t' : Trace) (q' : Nat → Nat) (m' : Nat),
        runNT P N (crowd gs (w.at d0) sl) t = (.next (crowd gs' w' sl'), t') ∧ gs'.size = gs.size ∧ gs'[0]? = some a' ∧ Stop a' w' ∧ PhInv P K Still c v z X B j m' gs' w' t' q' ∧ Kept w w' := by
  induction h with
  | @stop g w hs => exact fun M m d0 gs sl t q _ h0 hI => ⟨0, gs, g, w.at d0, sl, t, q, m, rfl, rfl, h0, hs d0, hI, .refl _⟩
  | @step a w a' w' es hrun h1 _ ih =>
    intro M
    induction M using Nat.strongRecOn with
    | ind M ihM =>
      intro m d0 gs sl t q hM h0 hI
      obtain ⟨gw, hgw, hwst⟩ := hI.wk
      have haw : ∀ g ∈ gs, awake g := by
        intro g hg
        obtain ⟨i, hi, rfl⟩ := Array.mem_iff_getElem.1 hg
        by_cases hz : i = 0
        · subst hz
          have : gs[0] = a := by simpa [Array.getElem?_eq_getElem hi] using h0
          rw [this]; exact awake_of (.inl hrun)
        · by_cases hij : i = j
          · subst hij
            have : gs[i] = gw := by simpa [Array.getElem?_eq_getElem hi] using hgw
            rw [this]
            exact awake_of (hwst.status.elim .inl fun x => .inr (.inl x))
          · exact awake_of ((hI.old i _ (by omega) hij (Array.getElem?_eq_getElem hi)).status.elim .inl fun x => .inr (.inr x))
      obtain ⟨i, g, d, sl', hi, hg, hst⟩ := crowd_pick (P := P) (w := w.at d0) (sl := sl) haw ⟨0, a, h0, hrun⟩
      have hwat : (w.at d0).at d = w.at d := rfl
      rw [hwat] at hst
      have hlt : i < gs.size := (Array.getElem?_eq_some_iff.1 hi).1
      have hKd : K (w.at d) := hKat (w.at d0) d hI.keep
      have hchd : ∃ s r tm, (w.at d).heap[c]? = some (.chan 0 #[] false s r tm) := hI.chan
      by_cases hz : i = 0
      · -- the holder's own step
        subst hz
        obtain rfl : g = a := by rw [h0] at hi; exact (Option.some.inj hi).symm
        obtain ⟨hgo, hd⟩ := h1 d
        obtain ⟨hgrow, hev, hstill, hkeep, hchan⟩ := hD _ _ _ hd
        have hrunT := runT_crowd_go (P := P) (sl := sl') (i := 0) hi (show stepG P (0 == 0) g (w.at d) = _ from hgo)
        have hu : ∀ op ∈ MemOp.ofEvents 0 g.frame.fn g.frame.place (es d), op.g = 0 := by intro op hop; obtain ⟨e, _, rfl⟩ := Go.Conc.mem_ofEvents hop; rfl
        have hdeaf : ∀ i, i ≠ 0 → Deaf (t ++ MemOp.ofEvents 0 g.frame.fn g.frame.place (es d)) i = Deaf t i := fun i hi => Deaf_other t (fun x => hi x.symm) _ hu
        have hsz : ((gs.map (woken P g (a' d) (w' d))).setIfInBounds 0 (a' d)).size = gs.size := by simp
        have hw : (w' d).at (w' d).drawn = w' d := rfl
        have hch' : ∃ s r tm, (w' d).heap[c]? = some (.chan 0 #[] false s r tm) := by
          obtain ⟨s, r, tm, e⟩ := hchd
          exact ⟨s, r, tm, hchan.trans e⟩
        obtain ⟨N, gs', a'', w'', sl'', t', q', m', hr, hs', h0', hS, hI', hKK⟩ := ih d (sumTo gs.size q + m) m (w' d).drawn ((gs.map (woken P g (a' d) (w' d))).setIfInBounds 0 (a' d)) sl' (t ++ MemOp.ofEvents 0 g.frame.fn g.frame.place (es d)) q
          (by rw [hsz]; exact Nat.le_refl _) (by simp [hlt])
          ⟨⟨gw, by
              rw [Array.getElem?_setIfInBounds_ne (fun e => hj0 e.symm), Array.getElem?_map, hgw]
              simp [hwst.woken hch'], hwst⟩,
           fun i x hi0 hij hx => by
            rw [Array.getElem?_setIfInBounds_ne (by omega), Array.getElem?_map] at hx
            obtain ⟨y, hy, rfl⟩ := Option.map_eq_some_iff.1 hx
            have hq := hI.old i y hi0 hij hy
            rw [woken_quitsD hq, hdeaf i (by omega)]
            exact hq,
           fun i hi => by
            rw [hsz] at hi
            rw [hdeaf i (by omega)]
            exact hI.above i hi,
           PastH.appH (PastG.mono hI.past hgrow) hu (by
              intro op hop b hb hs
              obtain ⟨e, he, rfl⟩ := Go.Conc.mem_ofEvents hop
              exact hstill e he b hb hs)
            (by
              rw [Deaf_own]
              exact deafBehind_still (fun e he => ⟨(evL_of (hev e he)).2.1, (evL_of (hev e he)).2.2.1⟩) _)
            (by intro op hop; obtain ⟨e, he, rfl⟩ := Go.Conc.mem_ofEvents hop; exact (evL_of (hev e he)).2.2.2),
           hch', hkeep hKd, Nat.le_trans hI.low hgrow⟩
        rw [hw] at hr
        exact ⟨N + 1, gs', a'', w'', sl'', t', q', m', by simp only [runNT, hst, hrunT]; exact hr, hs'.trans hsz, h0', hS, hI', Kept.trans (a := w) (hkp (w.at d) (w' d) (es d) hd) hKK⟩
      · have hi0 : (i == 0) = false := by simpa using hz
        by_cases hij : i = j
        · -- the worker's
          subst hij
          obtain rfl : g = gw := by rw [hgw] at hi; exact (Option.some.inj hi).symm
          -- at its send: it parks
          have hpark : SendAt P K c v z X g → ∀ n, m = n + 1 → ∃ (N : Nat) (gs' : Array Goroutine) (a' : Goroutine) (w' : World) (sl' : Option (Nat × Nat)) (t' : Trace) (q' : Nat → Nat) (m' : Nat),
              runNT P N (crowd gs (w.at d0) sl) t = (.next (crowd gs' w' sl'), t') ∧ gs'.size = gs.size ∧ gs'[0]? = some a' ∧ Stop a' w' ∧ PhInv P K Still c v z X B i m' gs' w' t' q' ∧ Kept w w' := by
            intro hs n hm
            have hstp := hs.2.1 (w.at d) hKd
            obtain ⟨s, r, tm, hc⟩ := hchd
            have hno : partners (gs.setIfInBounds i ph) c false = [] := partners_nil fun k x hk => by
              rcases getElem?_stand gs i k x hk with ⟨_, rfl⟩ | ⟨hne, hx⟩
              · exact offersAt_ph c false
              · by_cases hk0 : k = 0
                · subst hk0
                  rw [h0] at hx; cases hx
                  exact offersAt_of_not_blocked (by rw [hrun]; simp) _ _
                · exact offersAt_of_not_blocked (by
                    rcases (hI.old k x (by omega) hne hx).status with e | e <;> rw [e] <;> simp) _ _
            have hrunT := crowd_waits (P := P) (sl := sl') (i := i) hi (by rw [hi0]; exact hstp) (fun cc hcc => by
              obtain rfl : cc = scase c v z := by simpa using hcc
              exact ways_send_none hc (Nat.zero_le _) hno)
            have hsz : (gs.setIfInBounds i (parked g #[scase c v z] .send)).size = gs.size := by simp
            have hem : MemOp.ofEvents i g.frame.fn g.frame.place #[] = #[] := rfl
            obtain ⟨N, gs', a'', w'', sl'', t', q', m', hr, hs', h0', hS, hI', hKK⟩ := ihM (M - 1) (by omega) 0 d (gs.setIfInBounds i (parked g #[scase c v z] .send)) sl' t q
              (by rw [hsz]; omega) (by rw [Array.getElem?_setIfInBounds_ne hz]; exact h0)
              ⟨⟨_, Array.getElem?_setIfInBounds_self_of_lt hlt, .inr ⟨rfl, g, rfl, hs⟩⟩,
               fun k x hk0 hkj hx => by
                rw [Array.getElem?_setIfInBounds_ne (Ne.symm hkj)] at hx
                exact hI.old k x hk0 hkj hx,
               fun k hk => hI.above k (by rw [hsz] at hk; exact hk), hI.past, ⟨s, r, tm, hc⟩, hKd, hI.low⟩
            refine ⟨N + 1, gs', a'', w'', sl'', t', q', m', ?_, hs'.trans hsz, h0', hS, hI', hKK⟩
            simp only [runNT, hst, hrunT, hem, Array.append_empty]
            exact hr
          rcases hwst with ⟨n, hm, hp⟩ | ⟨_, g0, rfl, _⟩
          · cases n with
            | zero => exact hpark hp 0 hm
            | succ n =>
              rcases hp with hp | ⟨_, g', hstp, hp'⟩
              · exact hpark hp (n + 1) hm
              · obtain ⟨d', es', hrd, hgo⟩ := hstp (w.at d) hKd
                have hrunT := runT_crowd_go (P := P) (sl := sl') (i := i) hi (by rw [hi0]; exact hgo)
                have hww : (w.at d).at d' = w.at d' := rfl
                rw [hww] at hrunT
                have hu : ∀ op ∈ MemOp.ofEvents i g.frame.fn g.frame.place es', op.g = i := by intro op hop; obtain ⟨e, _, rfl⟩ := Go.Conc.mem_ofEvents hop; rfl
                have hdeaf : ∀ k, k ≠ i → Deaf (t ++ MemOp.ofEvents i g.frame.fn g.frame.place es') k = Deaf t k := fun k hk => Deaf_other t (fun x => hk x.symm) _ hu
                have hsz : ((gs.map (woken P g g' (w.at d'))).setIfInBounds i g').size = gs.size := by simp
                obtain ⟨N, gs', a'', w'', sl'', t', q', m', hr, hs', h0', hS, hI', hKK⟩ := ihM (M - 1) (by omega) (n + 1) d' ((gs.map (woken P g g' (w.at d'))).setIfInBounds i g') sl' (t ++ MemOp.ofEvents i g.frame.fn g.frame.place es') q
                  (by rw [hsz]; omega)
                  (by
                    rw [Array.getElem?_setIfInBounds_ne hz, Array.getElem?_map, h0]
                    simp [woken_run hrun])
                  ⟨⟨g', Array.getElem?_setIfInBounds_self_of_lt (by simpa using hlt), .inl ⟨n, rfl, hp'⟩⟩,
                   fun k x hk0 hkj hx => by
                    rw [Array.getElem?_setIfInBounds_ne (Ne.symm hkj), Array.getElem?_map] at hx
                    obtain ⟨y, hy, rfl⟩ := Option.map_eq_some_iff.1 hx
                    have hq := hI.old k y hk0 hkj hy
                    rw [woken_quitsD hq, hdeaf k hkj]
                    exact hq,
                   fun k hk => by
                    rw [hsz] at hk
                    rw [hdeaf k (by omega)]
                    exact hI.above k hk,
                   PastH.appRead hI.past (.inr rfl) rfl hu (by
                      intro op hop b hb
                      obtain ⟨e, he, rfl⟩ := Go.Conc.mem_ofEvents hop
                      exact (hrd e he).1 b hb)
                    (by
                      rw [Deaf_own]
                      exact deafBehind_still (fun e he => ⟨(hrd e he).2.1, (hrd e he).2.2.1⟩) _)
                    (by
                      intro op hop
                      obtain ⟨e, he, rfl⟩ := Go.Conc.mem_ofEvents hop
                      exact MemAct.low_mono hI.low (hrd e he).2.2.2),
                   hchd, (hKat (w.at d) d' hKd : K ((w.at d).at d')), hI.low⟩
                exact ⟨N + 1, gs', a'', w'', sl'', t', q', m', by simp only [runNT, hst, hrunT]; exact hr, hs'.trans hsz, h0', hS, hI', hKK⟩
          · cases hg
        · -- a leaver's
          have hq := hI.old i g (by omega) hij hi
          cases hqi : q i with
          | zero => rw [hqi] at hq; rw [hq.1] at hg; cases hg
          | succ k =>
            rw [hqi] at hq
            rcases hq with ⟨hf, _⟩ | ⟨_, g', es', hm, hstp, hq'⟩
            · rw [hf] at hg; cases hg
            have hrunT := runT_crowd_go (P := P) (sl := sl') (i := i) hi (by rw [hi0]; exact hstp (w.at d))
            have hu : ∀ op ∈ MemOp.ofEvents i g.frame.fn g.frame.place es', op.g = i := by intro op hop; obtain ⟨e, _, rfl⟩ := Go.Conc.mem_ofEvents hop; rfl
            have hdeaf : ∀ k, k ≠ i → Deaf (t ++ MemOp.ofEvents i g.frame.fn g.frame.place es') k = Deaf t k := fun k hk => Deaf_other t (fun x => hk x.symm) _ hu
            have hsz : ((gs.map (woken P g g' (w.at d))).setIfInBounds i g').size = gs.size := by simp
            have hsum : sumTo gs.size (upd q i k) + (k + 1) = sumTo gs.size q + k := by
              have := sumTo_upd q k id hlt
              simpa [hqi] using this
            obtain ⟨N, gs', a'', w'', sl'', t', q', m', hr, hs', h0', hS, hI', hKK⟩ := ihM (M - 1) (by omega) m d ((gs.map (woken P g g' (w.at d))).setIfInBounds i g') sl' (t ++ MemOp.ofEvents i g.frame.fn g.frame.place es') (upd q i k)
              (by rw [hsz]; omega)
              (by
                rw [Array.getElem?_setIfInBounds_ne hz, Array.getElem?_map, h0]
                simp [woken_run hrun])
              ⟨⟨gw, by
                  rw [Array.getElem?_setIfInBounds_ne hij, Array.getElem?_map, hgw]
                  simp [hwst.woken hchd], hwst⟩,
               fun k' x hk0 hkj hx => by
                by_cases hji : i = k'
                · subst hji
                  rw [Array.getElem?_setIfInBounds_self_of_lt (by simpa using hlt)] at hx
                  obtain rfl := Option.some.inj hx
                  rw [upd_same, Deaf_own]
                  exact hq'
                · rw [Array.getElem?_setIfInBounds_ne hji, Array.getElem?_map] at hx
                  obtain ⟨y, hy, rfl⟩ := Option.map_eq_some_iff.1 hx
                  have hqj := hI.old k' y hk0 hkj hy
                  rw [woken_quitsD hqj, upd_ne q k (Ne.symm hji), hdeaf k' (Ne.symm hji)]
                  exact hqj,
               fun k' hk => by
                rw [hsz] at hk
                rw [hdeaf k' (by omega)]
                exact hI.above k' hk,
               PastH.appMute hI.past hu (by intro op hop; obtain ⟨e, he, rfl⟩ := Go.Conc.mem_ofEvents hop; exact touch_mute (hm e he))
                (fun hmem => absurd hmem (by omega)) (by intro op hop; obtain ⟨e, he, rfl⟩ := Go.Conc.mem_ofEvents hop; exact low_mute (hm e he) _),
               hchd, hKd, hI.low⟩
            exact ⟨N + 1, gs', a'', w'', sl'', t', q', m', by simp only [runNT, hst, hrunT]; exact hr, hs'.trans hsz, h0', hS, hI', hKK⟩
end
end Go.Proofs.Ytnahlemchajfdaa.Meta
namespace Go.Proofs.Ytnahlemchajfdaa.Meta
open Go Go.Conc
open Go.ConcN (sumTo upd sumTo_upd upd_ne upd_same)

section
variable {P : Program} {K : World → Prop} {Still : Loc → Prop} {c e : Nat} {v z z0 z1 : Value} {X : Goroutine → Prop} {B j : Nat} {a : Goroutine}

/-- The holder stands at its select over c and e. -/
def AtSel (P : Program) (K : World → Prop) (c e : Nat) (z0 z1 : Value) (a : Goroutine) : Prop :=
  a.status = .running ∧ ∀ w, K w → stepG P true a w = .comm a #[rcase c z0, rcase e z1] true .select w #[]

/-- The four operations of a meeting: the giver x, the taker y. -/
def met2 (x y : Nat) (fx : FuncId) (px : String) (fy : FuncId) (py : String) (c s r cap : Nat) : Trace :=
  #[{ g := x, fn := fx, pos := px, act := .send c s }, { g := y, fn := fy, pos := py, act := .recv c r cap }, { g := x, fn := fx, pos := px, act := .sendDone c s }, { g := y, fn := fy, pos := py, act := .recvDone c r }]
theorem met2_all {x y : Nat} {fx : FuncId} {px : String} {fy : FuncId} {py : String} {c s r cap B : Nat} (hc : c < B) : ∀ op ∈ met2 x y fx px fy py c s r cap, op.act.touch? = none ∧ (∀ g d, deafStep g d op = d) ∧ op.act.low B := by
  intro op hop
  simp only [met2, List.mem_toArray, List.mem_cons, List.not_mem_nil, or_false] at hop
  rcases hop with rfl | rfl | rfl | rfl <;> exact ⟨rfl, fun _ _ => rfl, hc⟩

/-- Where a meeting leads. -/
def Met (P : Program) (K : World → Prop) (Still : Loc → Prop) (c : Nat) (v z : Value) (X : Goroutine → Prop) (cases : Array CommCase) (B j : Nat) (a : Goroutine) (gs : Array Goroutine) (w : World) (sl : Option (Nat × Nat)) (t : Trace) : Prop :=
  ∃ (N : Nat) (gs' : Array Goroutine) (w' : World) (sl' : Option (Nat × Nat)) (t' : Trace) (q' : Nat → Nat) (g0 : Goroutine) (s r d : Nat) (tm : Bool),
    runNT P N (crowd gs w sl) t = (.next (crowd gs' w' sl'), t') ∧ gs'.size = gs.size ∧ gs'[0]? = some (a.finishComm P cases .select 0 v true) ∧
    gs'[j]? = some (g0.finishComm P #[scase c v z] .send 0 undef false) ∧ SendAt P K c v z X g0 ∧
    (∀ i g, 0 < i → i ≠ j → gs'[i]? = some g → QuitsD P (q' i) (Deaf t' i) g) ∧ (∀ i, gs'.size ≤ i → Deaf t' i = 0) ∧
    PastH Still (fun g => g = 0 ∨ g = j) (fun g => g = j) w'.heap.size 0 t' ∧
    w.heap[c]? = some (.chan 0 #[] false s r tm) ∧ w' = (w.at d).setChan c 0 #[] false (s + 1) (r + 1) tm

theorem Met.head {cases : Array CommCase} {gs gs1 : Array Goroutine} {w : World} {d1 : Nat} {sl sl1 : Option (Nat × Nat)} {t t1 : Trace} {m : Machine} (hsz : gs1.size = gs.size)
    (hst : ∀ N, runNT P (N + 1) (crowd gs w sl) t = runNT P N (crowd gs1 (w.at d1) sl1) t1) (h : Met P K Still c v z X cases B j a gs1 (w.at d1) sl1 t1) : Met P K Still c v z X cases B j a gs w sl t := by
  obtain ⟨N, gs', w', sl', t', q', g0, s, r, d, tm, h1, h2, h3, h4, h5, h6, h7, h8, h9, h10⟩ := h
  exact ⟨N + 1, gs', w', sl', t', q', g0, s, r, d, tm, (hst N).trans h1, h2.trans hsz, h3, h4, h5, h6, h7, h8, h9, h10⟩

/-- THE HOLDER's SELECT AND THE WORKER's SEND MEET, WHOEVER COMES FIRST. -/
theorem meets (hKat : ∀ w d, K w → K (w.at d)) (hj0 : j ≠ 0) (hce : e ≠ c) (ha : AtSel P K c e z0 z1 a) :
    ∀ (M m : Nat) (b : Bool) (gs : Array Goroutine) (w : World) (sl : Option (Nat × Nat)) (t : Trace) (q : Nat → Nat),
      sumTo gs.size q + m + (if b then 0 else 1) ≤ M → (b = true → 0 < m) → gs[0]? = some (if b then parked a #[rcase c z0, rcase e z1] .select else a) → PhInv P K Still c v z X B j m gs w t q →
      (∃ s r tm, w.heap[e]? = some (.chan 0 #[] false s r tm)) → Met P K Still c v z X #[rcase c z0, rcase e z1] B j a gs w sl t := by
  intro M
  induction M using Nat.strongRecOn with
  | ind M ihM =>
    intro m b gs w sl t q hM hb h0 hI he
    obtain ⟨gw, hgw, hwst⟩ := hI.wk
    have hopen : ∀ d, ∀ cc ∈ (#[rcase c z0, rcase e z1] : Array CommCase), ∃ c z cap buf s r tm, cc = rcase c z ∧ (w.at d).heap[c]? = some (.chan cap buf false s r tm) := by
      intro d cc hcc
      have : cc = rcase c z0 ∨ cc = rcase e z1 := by simpa using hcc
      obtain ⟨s, r, tm, hc⟩ := hI.chan
      obtain ⟨s', r', tm', he'⟩ := he
      rcases this with rfl | rfl
      · exact ⟨c, z0, 0, #[], s, r, tm, rfl, hc⟩
      · exact ⟨e, z1, 0, #[], s', r', tm', rfl, he'⟩
    have hmain : ∀ x x' d, woken P x x' (w.at d) (if b then parked a #[rcase c z0, rcase e z1] .select else a) = (if b then parked a #[rcase c z0, rcase e z1] .select else a) := by
      intro x x' d
      cases b with
      | false => exact woken_run ha.1
      | true =>
        show woken P x x' (w.at d) (parked a _ _) = _
        unfold Go.Conc.woken
        split
        · exact again_all_open (hopen d)
        · rfl
    have haw : ∀ g ∈ gs, awake g := by
      intro g hg
      obtain ⟨i, hi, rfl⟩ := Array.mem_iff_getElem.1 hg
      by_cases hz : i = 0
      · subst hz
        have : gs[0] = (if b then parked a #[rcase c z0, rcase e z1] .select else a) := by simpa [Array.getElem?_eq_getElem hi] using h0
        rw [this]
        cases b with
        | false => exact awake_of (.inl ha.1)
        | true => exact awake_of (.inr (.inl rfl))
      · by_cases hij : i = j
        · subst hij
          have : gs[i] = gw := by simpa [Array.getElem?_eq_getElem hi] using hgw
          rw [this]
          exact awake_of (hwst.status.elim .inl fun x => .inr (.inl x))
        · exact awake_of ((hI.old i _ (by omega) hij (Array.getElem?_eq_getElem hi)).status.elim .inl fun x => .inr (.inr x))
    have hrunner : ∃ (i : Nat) (g : Goroutine), gs[i]? = some g ∧ g.status = .running := by
      cases b with
      | false => exact ⟨0, a, h0, ha.1⟩
      | true =>
        rcases hwst with ⟨n, _, hp⟩ | ⟨hm, _⟩
        · exact ⟨j, gw, hgw, hp.running⟩
        · have := hb rfl; omega
    obtain ⟨i, g, d, sl', hi, hg, hst⟩ := crowd_pick (P := P) (w := w) (sl := sl) haw hrunner
    have hlt : i < gs.size := (Array.getElem?_eq_some_iff.1 hi).1
    have hKd : K (w.at d) := hKat w d hI.keep
    obtain ⟨s, r, tm, hc⟩ := hI.chan
    have hcd : (w.at d).heap[c]? = some (.chan 0 #[] false s r tm) := hc
    obtain ⟨s', r', tm', he'⟩ := he
    have hed : (w.at d).heap[e]? = some (.chan 0 #[] false s' r' tm') := he'
    have hleave : ∀ (k : Nat) (x : Goroutine), 0 < k → k ≠ j → gs[k]? = some x → x.status ≠ .blocked := fun k x hk0 hkj hx => by
      rcases (hI.old k x hk0 hkj hx).status with y | y <;> rw [y] <;> simp
    have hclt : c < w.heap.size := (Array.getElem?_eq_some_iff.1 hc).1
    have hmetq : ∀ (x y : Nat) (fx : FuncId) (px : String) (fy : FuncId) (py : String) (cap k : Nat), Deaf (t ++ met2 x y fx px fy py c s r cap) k = Deaf t k := fun x y fx px fy py cap k =>
      Deaf_quiet (fun op hop => (met2_all hclt op hop).2.1 k)
    have hmetP : ∀ (x y : Nat) (fx : FuncId) (px : String) (fy : FuncId) (py : String) (cap : Nat), PastH Still (fun g => g = 0 ∨ g = j) (fun g => g = j) w.heap.size 0 (t ++ met2 x y fx px fy py c s r cap) := fun x y fx px fy py cap =>
      pastH_quiet hI.past (fun op hop => (met2_all hclt op hop).1) (fun g op hop => (met2_all hclt op hop).2.1 g) (fun op hop => (met2_all hclt op hop).2.2)
    by_cases hz : i = 0
    · -- the holder comes to its select
      subst hz
      cases b with
      | true =>
        have : g = parked a #[rcase c z0, rcase e z1] .select := by
          have := hi.symm.trans h0
          exact Option.some.inj this
        rw [this] at hg; cases hg
      | false =>
        obtain rfl : g = a := Option.some.inj (hi.symm.trans h0)
        have hstp := ha.2 (w.at d) hKd
        have hpe : partners (gs.setIfInBounds 0 ph) e true = [] := partners_nil fun k x hk => by
          rcases getElem?_stand gs 0 k x hk with ⟨_, rfl⟩ | ⟨hne, hx⟩
          · exact offersAt_ph e true
          · by_cases hkj : k = j
            · subst hkj
              obtain rfl : gw = x := Option.some.inj (hgw.symm.trans hx)
              rcases hwst with ⟨n, _, hp⟩ | ⟨_, g0, rfl, _⟩
              · exact offersAt_of_not_blocked (by rw [hp.running]; simp) _ _
              · rw [offersAt_parked_send, if_neg (fun x => hce x.symm)]
            · exact offersAt_of_not_blocked (hleave k x (by omega) hkj hx) _ _
        have hother : ∀ (n : Nat) (c' : CommCase), n ≠ 0 → (#[rcase c z0, rcase e z1] : Array CommCase)[n]? = some c' → NoWays (w.at d) (gs.setIfInBounds 0 ph) c' := by
          intro n c' hn hc'
          have : n = 1 := by
            have := (Array.getElem?_eq_some_iff.1 hc').1
            simp at this
            omega
          subst this
          obtain rfl : rcase e z1 = c' := by simpa using hc'
          exact ways_recv_none hed hpe
        have hem : MemOp.ofEvents 0 g.frame.fn g.frame.place #[] = #[] := rfl
        rcases hwst with ⟨n, hm, hp⟩ | ⟨hm, g0, rfl, hs⟩
        · -- nobody is there yet: it parks
          have hpc : partners (gs.setIfInBounds 0 ph) c true = [] := partners_nil fun k x hk => by
            rcases getElem?_stand gs 0 k x hk with ⟨_, rfl⟩ | ⟨hne, hx⟩
            · exact offersAt_ph c true
            · by_cases hkj : k = j
              · subst hkj
                obtain rfl : gw = x := Option.some.inj (hgw.symm.trans hx)
                exact offersAt_of_not_blocked (by rw [hp.running]; simp) _ _
              · exact offersAt_of_not_blocked (hleave k x (by omega) hkj hx) _ _
          have hrunT := crowd_waits (P := P) (sl := sl') (i := 0) hi hstp (fun cc hcc => by
            have : cc = rcase c z0 ∨ cc = rcase e z1 := by simpa using hcc
            rcases this with rfl | rfl
            · exact ways_recv_none hcd hpc
            · exact ways_recv_none hed hpe)
          have hsz : (gs.setIfInBounds 0 (parked g #[rcase c z0, rcase e z1] .select)).size = gs.size := by simp
          refine Met.head hsz (d1 := d) (sl1 := sl') (t1 := t) (m := crowd gs w sl) (fun N => by simp only [runNT, hst, hrunT, hem, Array.append_empty]) ?_
          refine ihM (M - 1) (by simp at hM; omega) m true _ (w.at d) sl' t q (by rw [hsz]; simp at hM ⊢; omega) (fun _ => by omega) (Array.getElem?_setIfInBounds_self_of_lt hlt)
            ⟨⟨gw, by rw [Array.getElem?_setIfInBounds_ne (fun x => hj0 x.symm)]; exact hgw, .inl ⟨n, hm, hp⟩⟩, fun k x hk0 hkj hx => by
              rw [Array.getElem?_setIfInBounds_ne (by omega)] at hx
              exact hI.old k x hk0 hkj hx, fun k hk => hI.above k (by rw [hsz] at hk; exact hk), hI.past, ⟨s, r, tm, hcd⟩, hKd, hI.low⟩ ⟨s', r', tm', hed⟩
        · -- the sender waits there: they meet
          have hpc : partners (gs.setIfInBounds 0 ph) c true = [(j, 0)] := by
            rw [partners_one (stand_get hj0 hgw) fun k x hkj hk => ?_]
            · rw [offersAt_parked_send, if_pos rfl]; rfl
            · rcases getElem?_stand gs 0 k x hk with ⟨_, rfl⟩ | ⟨hne, hx⟩
              · exact offersAt_ph c true
              · exact offersAt_of_not_blocked (hleave k x (by omega) hkj hx) _ _
          have hrunT := crowd_sel_recv_meets (P := P) (sl := sl') (i := 0) (k := 0) hi hstp rfl hother hcd hj0 hgw hpc
          have hsz : ((gs.setIfInBounds j (g0.finishComm P #[scase c v z] .send 0 undef false)).setIfInBounds 0 (g.finishComm P #[rcase c z0, rcase e z1] .select (0 : Nat) v true)).size = gs.size := by simp
          refine ⟨1, _, _, _, t ++ met2 j 0 g0.frame.fn g0.frame.place g.frame.fn g.frame.place c s r 0, q, g0, s, r, d, tm, by simp only [runNT, hst, hrunT, hem, Array.empty_append]; rfl, hsz, by rw [Array.getElem?_setIfInBounds_self_of_lt (by simpa using hlt)]; rfl,
            by rw [Array.getElem?_setIfInBounds_ne (fun x => hj0 x.symm), Array.getElem?_setIfInBounds_self_of_lt (Array.getElem?_eq_some_iff.1 hgw).1], hs, fun k x hk0 hkj hx => ?_, fun k hk => ?_, ?_, hc, rfl⟩
          · rw [Array.getElem?_setIfInBounds_ne (by omega), Array.getElem?_setIfInBounds_ne (Ne.symm hkj)] at hx
            rw [hmetq]
            exact hI.old k x hk0 hkj hx
          · rw [hmetq]
            exact hI.above k (by rw [hsz] at hk; exact hk)
          · have hsize : ((w.at d).setChan c 0 #[] false (s + 1) (r + 1) tm).heap.size = w.heap.size := by simp [World.setChan]; rfl
            rw [hsize]
            exact hmetP _ _ _ _ _ _ _
    · have hi0 : (i == 0) = false := by simpa using hz
      by_cases hij : i = j
      · -- the worker's
        subst hij
        obtain rfl : g = gw := Option.some.inj (hi.symm.trans hgw)
        have hem : MemOp.ofEvents i g.frame.fn g.frame.place #[] = #[] := rfl
        have hsend : SendAt P K c v z X g → ∀ n, m = n + 1 → Met P K Still c v z X #[rcase c z0, rcase e z1] B i a gs w sl t := by
          intro hs n hm
          have hstp := hs.2.1 (w.at d) hKd
          cases b with
          | false =>
            have hno : partners (gs.setIfInBounds i ph) c false = [] := partners_nil fun k x hk => by
              rcases getElem?_stand gs i k x hk with ⟨_, rfl⟩ | ⟨hne, hx⟩
              · exact offersAt_ph c false
              · by_cases hk0 : k = 0
                · subst hk0
                  obtain rfl : a = x := Option.some.inj (h0.symm.trans hx)
                  exact offersAt_of_not_blocked (by rw [ha.1]; simp) _ _
                · exact offersAt_of_not_blocked (hleave k x (by omega) hne hx) _ _
            have hrunT := crowd_waits (P := P) (sl := sl') (i := i) hi (by rw [hi0]; exact hstp) (fun cc hcc => by
              obtain rfl : cc = scase c v z := by simpa using hcc
              exact ways_send_none hcd (Nat.zero_le _) hno)
            have hsz : (gs.setIfInBounds i (parked g #[scase c v z] .send)).size = gs.size := by simp
            refine Met.head hsz (d1 := d) (sl1 := sl') (t1 := t) (m := crowd gs w sl) (fun N => by simp only [runNT, hst, hrunT, hem, Array.append_empty]) ?_
            refine ihM (M - 1) (by simp at hM; omega) 0 false _ (w.at d) sl' t q (by rw [hsz]; simp at hM ⊢; omega) (fun x => by cases x) (by rw [Array.getElem?_setIfInBounds_ne hz]; exact h0)
              ⟨⟨_, Array.getElem?_setIfInBounds_self_of_lt hlt, .inr ⟨rfl, g, rfl, hs⟩⟩, fun k x hk0 hkj hx => by
                rw [Array.getElem?_setIfInBounds_ne (Ne.symm hkj)] at hx
                exact hI.old k x hk0 hkj hx, fun k hk => hI.above k (by rw [hsz] at hk; exact hk), hI.past, ⟨s, r, tm, hcd⟩, hKd, hI.low⟩ ⟨s', r', tm', hed⟩
          | true =>
            have h0' : gs[0]? = some (parked a #[rcase c z0, rcase e z1] .select) := h0
            have hpc : partners (gs.setIfInBounds i ph) c false = [(0, 0)] := by
              rw [partners_one (stand_get (i := i) (fun x => hj0 x.symm) h0') fun k x hk0 hk => ?_]
              · rw [offersAt_parked_at (k := 0) (z := z0) rfl fun n cc hn hcc => ?_]
                · rfl
                · have : n = 1 := by
                    have := (Array.getElem?_eq_some_iff.1 hcc).1
                    simp at this
                    omega
                  subst this
                  obtain rfl : rcase e z1 = cc := by simpa using hcc
                  simp [rcase, hce]
              · rcases getElem?_stand gs i k x hk with ⟨_, rfl⟩ | ⟨hne, hx⟩
                · exact offersAt_ph c false
                · exact offersAt_of_not_blocked (hleave k x (by omega) hne hx) _ _
            have hrunT := crowd_send_meets_sel (P := P) (sl := sl') (i := i) (j := 0) (k := 0) hi (by rw [hi0]; exact hstp) hcd (fun x => hj0 x.symm) h0' rfl hpc
            have hlt0 : 0 < gs.size := (Array.getElem?_eq_some_iff.1 h0).1
            have hsz : ((gs.setIfInBounds 0 (a.finishComm P #[rcase c z0, rcase e z1] .select (0 : Nat) v true)).setIfInBounds i (g.finishComm P #[scase c v z] .send 0 undef false)).size = gs.size := by simp
            refine ⟨1, _, _, _, t ++ met2 i 0 g.frame.fn g.frame.place a.frame.fn a.frame.place c s r 0, q, g, s, r, d, tm, by simp only [runNT, hst, hrunT, hem, Array.empty_append]; rfl, hsz,
              by rw [Array.getElem?_setIfInBounds_ne hz, Array.getElem?_setIfInBounds_self_of_lt hlt0]; rfl,
              by rw [Array.getElem?_setIfInBounds_self_of_lt (by simpa using hlt)], hs, fun k x hk0 hkj hx => ?_, fun k hk => ?_, ?_, hc, rfl⟩
            · rw [Array.getElem?_setIfInBounds_ne (Ne.symm hkj), Array.getElem?_setIfInBounds_ne (by omega)] at hx
              rw [hmetq]
              exact hI.old k x hk0 hkj hx
            · rw [hmetq]
              exact hI.above k (by rw [hsz] at hk; exact hk)
            · have hsize : ((w.at d).setChan c 0 #[] false (s + 1) (r + 1) tm).heap.size = w.heap.size := by simp [World.setChan]; rfl
              rw [hsize]
              exact hmetP _ _ _ _ _ _ _
        rcases hwst with ⟨n, hm, hp⟩ | ⟨_, g0, rfl, _⟩
        · cases n with
          | zero => exact hsend hp 0 hm
          | succ n =>
            rcases hp with hp | ⟨_, g', hstp, hp'⟩
            · exact hsend hp (n + 1) hm
            · obtain ⟨d', es', hrd, hgo⟩ := hstp (w.at d) hKd
              have hrunT := runT_crowd_go (P := P) (sl := sl') (i := i) hi (by rw [hi0]; exact hgo)
              have hww : (w.at d).at d' = w.at d' := rfl
              rw [hww] at hrunT
              have hu : ∀ op ∈ MemOp.ofEvents i g.frame.fn g.frame.place es', op.g = i := by intro op hop; obtain ⟨e, _, rfl⟩ := Go.Conc.mem_ofEvents hop; rfl
              have hdeaf : ∀ k, k ≠ i → Deaf (t ++ MemOp.ofEvents i g.frame.fn g.frame.place es') k = Deaf t k := fun k hk => Deaf_other t (fun x => hk x.symm) _ hu
              have hsz : ((gs.map (woken P g g' (w.at d'))).setIfInBounds i g').size = gs.size := by simp
              refine Met.head hsz (d1 := d') (sl1 := sl') (t1 := t ++ MemOp.ofEvents i g.frame.fn g.frame.place es') (m := crowd gs w sl) (fun N => by simp only [runNT, hst, hrunT]) ?_
              refine ihM (M - 1) (by omega) (n + 1) b _ (w.at d') sl' _ q (by rw [hsz]; omega) (fun _ => by omega)
                (by rw [Array.getElem?_setIfInBounds_ne hz, Array.getElem?_map, h0]; simp [hmain])
                ⟨⟨g', Array.getElem?_setIfInBounds_self_of_lt (by simpa using hlt), .inl ⟨n, rfl, hp'⟩⟩,
                 fun k x hk0 hkj hx => by
                  rw [Array.getElem?_setIfInBounds_ne (Ne.symm hkj), Array.getElem?_map] at hx
                  obtain ⟨y, hy, rfl⟩ := Option.map_eq_some_iff.1 hx
                  have hq := hI.old k y hk0 hkj hy
                  rw [woken_quitsD hq, hdeaf k hkj]
                  exact hq,
                 fun k hk => by
                  rw [hsz] at hk
                  rw [hdeaf k (by omega)]
                  exact hI.above k hk,
                 PastH.appRead hI.past (.inr rfl) rfl hu (by
                    intro op hop b hb
                    obtain ⟨e, he, rfl⟩ := Go.Conc.mem_ofEvents hop
                    exact (hrd e he).1 b hb)
                  (by
                    rw [Deaf_own]
                    exact deafBehind_still (fun e he => ⟨(hrd e he).2.1, (hrd e he).2.2.1⟩) _)
                  (by
                    intro op hop
                    obtain ⟨e, he, rfl⟩ := Go.Conc.mem_ofEvents hop
                    exact MemAct.low_mono hI.low (hrd e he).2.2.2),
                 ⟨s, r, tm, hc⟩, hKat _ _ hI.keep, hI.low⟩ ⟨s', r', tm', he'⟩
        · cases hg
      · -- a leaver's
        have hq := hI.old i g (by omega) hij hi
        cases hqi : q i with
        | zero => rw [hqi] at hq; rw [hq.1] at hg; cases hg
        | succ k =>
          rw [hqi] at hq
          rcases hq with ⟨hf, _⟩ | ⟨_, g', es', hm, hstp, hq'⟩
          · rw [hf] at hg; cases hg
          have hrunT := runT_crowd_go (P := P) (sl := sl') (i := i) hi (by rw [hi0]; exact hstp (w.at d))
          have hu : ∀ op ∈ MemOp.ofEvents i g.frame.fn g.frame.place es', op.g = i := by intro op hop; obtain ⟨e, _, rfl⟩ := Go.Conc.mem_ofEvents hop; rfl
          have hdeaf : ∀ k, k ≠ i → Deaf (t ++ MemOp.ofEvents i g.frame.fn g.frame.place es') k = Deaf t k := fun k hk => Deaf_other t (fun x => hk x.symm) _ hu
          have hsz : ((gs.map (woken P g g' (w.at d))).setIfInBounds i g').size = gs.size := by simp
          have hsum : sumTo gs.size (upd q i k) + (k + 1) = sumTo gs.size q + k := by
            have := sumTo_upd q k id hlt
            simpa [hqi] using this
          refine Met.head hsz (d1 := d) (sl1 := sl') (t1 := t ++ MemOp.ofEvents i g.frame.fn g.frame.place es') (m := crowd gs w sl) (fun N => by simp only [runNT, hst, hrunT]) ?_
          refine ihM (M - 1) (by omega) m b _ (w.at d) sl' _ (upd q i k) (by rw [hsz]; omega) hb
            (by rw [Array.getElem?_setIfInBounds_ne hz, Array.getElem?_map, h0]; simp [hmain])
            ⟨⟨gw, by
                rw [Array.getElem?_setIfInBounds_ne hij, Array.getElem?_map, hgw]
                simp [hwst.woken (w := w.at d) ⟨s, r, tm, hcd⟩], hwst⟩,
             fun k' x hk0 hkj hx => by
              by_cases hji : i = k'
              · subst hji
                rw [Array.getElem?_setIfInBounds_self_of_lt (by simpa using hlt)] at hx
                obtain rfl := Option.some.inj hx
                rw [upd_same, Deaf_own]
                exact hq'
              · rw [Array.getElem?_setIfInBounds_ne hji, Array.getElem?_map] at hx
                obtain ⟨y, hy, rfl⟩ := Option.map_eq_some_iff.1 hx
                have hqj := hI.old k' y hk0 hkj hy
                rw [woken_quitsD hqj, upd_ne q k (Ne.symm hji), hdeaf k' (Ne.symm hji)]
                exact hqj,
             fun k' hk => by
              rw [hsz] at hk
              rw [hdeaf k' (by omega)]
              exact hI.above k' hk,
             PastH.appMute hI.past hu (by intro op hop; obtain ⟨e, he, rfl⟩ := Go.Conc.mem_ofEvents hop; exact touch_mute (hm e he))
              (fun hmem => absurd hmem (by omega)) (by intro op hop; obtain ⟨e, he, rfl⟩ := Go.Conc.mem_ofEvents hop; exact low_mute (hm e he) _),
             ⟨s, r, tm, hcd⟩, hKd, hI.low⟩ ⟨s', r', tm', hed⟩
end
end Go.Proofs.Ytnahlemchajfdaa.Meta
namespace Go.Proofs.Ytnahlemchajfdaa.Meta
open Go Go.Conc
open Go.ConcN (sumTo upd sumTo_upd upd_ne upd_same)

/-- Goroutine j has closed e as operation m, behind all that it touched. -/
def Closed (e j m : Nat) (t : Trace) : Prop :=
  (∃ z, t[m]? = some z ∧ z.g = j ∧ z.act = .close e) ∧ t.deaf j m = 0 ∧ ∀ i a, touchAt t i = some a → t.g? i = some j → i < m

theorem Closed.app {e j m : Nat} {t u : Trace} (h : Closed e j m t) (hn : ∀ op ∈ u, op.act.touch? = none) : Closed e j m (t ++ u) := by
  obtain ⟨⟨z, hz, hg, ha⟩, hd, hall⟩ := h
  have hlt := lt_size_of_getElem? hz
  refine ⟨⟨z, by rw [getElem?_append_old hlt]; exact hz, hg, ha⟩, by rw [deaf_old (Nat.le_of_lt hlt)]; exact hd, fun i a hi hgi => ?_⟩
  obtain ⟨x, hx, hxa⟩ := touch_of hi
  rcases getElem?_append_cases hx with ⟨hil, hx'⟩ | ⟨_, hxu⟩
  · exact hall i a (by rw [touchAt_of hx']; exact hxa) (by rw [g?_old hil] at hgi; exact hgi)
  · rw [hn x hxu] at hxa; cases hxa

section
variable {P : Program} {Still : Loc → Prop} {c e : Nat} {z0 z1 : Value} {j : Nat} {a : Goroutine}

/-- THE HOLDER's SELECT FINDS e CLOSED; ALL OTHERS LEAVE: ALL IS KNOWN TO IT. `x`: the holder, who may have been parked and woken. -/
theorem finds (hce : e ≠ c) {x : Goroutine} (hxr : x.status = .running) (hx : ∀ d w, stepG P true x (World.at w d) = .comm a #[rcase c z0, rcase e z1] true .select (World.at w d) #[]) :
    ∀ (M : Nat) (gs : Array Goroutine) (w : World) (sl : Option (Nat × Nat)) (t : Trace) (q : Nat → Nat) (m : Nat), sumTo gs.size q ≤ M → gs[0]? = some x → Leavers P t gs q →
      PastH Still (fun g => g = 0) (fun g => g = j) w.heap.size 0 t → Closed e j m t →
      (∃ s r tm, w.heap[c]? = some (.chan 0 #[] false s r tm)) → (∃ s r tm, w.heap[e]? = some (.chan 0 #[] true s r tm)) →
      ∃ (N : Nat) (gs' : Array Goroutine) (d : Nat) (sl' : Option (Nat × Nat)) (t' : Trace) (q' : Nat → Nat),
        runNT P N (crowd gs w sl) t = (.next (crowd gs' (w.at d) sl'), t') ∧ gs'.size = gs.size ∧ gs'[0]? = some (a.finishComm P #[rcase c z0, rcase e z1] .select 1 z1 false) ∧ Leavers P t' gs' q' ∧ Past NoShun w.heap.size t' := by
  intro M
  induction M using Nat.strongRecOn with
  | ind M ihM =>
    intro gs w sl t q m hM h0 hL hP hC hc he
    have haw : ∀ g ∈ gs, awake g := by
      intro g hg
      obtain ⟨i, hi, rfl⟩ := Array.mem_iff_getElem.1 hg
      by_cases hz : i = 0
      · subst hz
        have : gs[0] = x := by simpa [Array.getElem?_eq_getElem hi] using h0
        rw [this]; exact awake_of (.inl hxr)
      · exact awake_of ((hL.old i _ (by omega) (Array.getElem?_eq_getElem hi)).status.elim .inl fun x => .inr (.inr x))
    obtain ⟨i, g, d, sl', hi, hg, hst⟩ := crowd_pick (P := P) (w := w) (sl := sl) haw ⟨0, x, h0, hxr⟩
    have hlt : i < gs.size := (Array.getElem?_eq_some_iff.1 hi).1
    obtain ⟨s, r, tm, hc'⟩ := hc
    obtain ⟨s', r', tm', he'⟩ := he
    have hcd : (w.at d).heap[c]? = some (.chan 0 #[] false s r tm) := hc'
    have hed : (w.at d).heap[e]? = some (.chan 0 #[] true s' r' tm') := he'
    by_cases hz : i = 0
    · subst hz
      obtain rfl : g = x := Option.some.inj (hi.symm.trans h0)
      have hno : ∀ k b, partners (gs.setIfInBounds 0 ph) k b = [] := fun k b => partners_nil fun n y hn => by
        rcases getElem?_stand gs 0 n y hn with ⟨_, rfl⟩ | ⟨hne, hy⟩
        · exact offersAt_ph k b
        · exact offersAt_of_not_blocked (by rcases (hL.old n y (by omega) hy).status with z | z <;> rw [z] <;> simp) _ _
      have hrunT := crowd_sel_recv_closed (P := P) (sl := sl') (i := 0) (k := 1) (z := z1) hi (hx d w) rfl (fun n c' hn hc'' => by
        have : n = 0 := by
          have := (Array.getElem?_eq_some_iff.1 hc'').1
          simp at this
          omega
        subst this
        obtain rfl : rcase c z0 = c' := by simpa using hc''
        exact ways_recv_none hcd (hno c true)) hed (hno e true)
      have hem : MemOp.ofEvents 0 g.frame.fn g.frame.place #[] = #[] := rfl
      have hsz : (gs.setIfInBounds 0 (a.finishComm P #[rcase c z0, rcase e z1] .select (1 : Nat) z1 false)).size = gs.size := by simp
      have helt : e < w.heap.size := (Array.getElem?_eq_some_iff.1 he').1
      obtain ⟨⟨zz, hzz, hzg, hza⟩, hzd, hall⟩ := hC
      have hfound := pastH_found hP rfl hzz hzg hza hzd (fun i a g hi hgi hl => by subst hl; exact ⟨rfl, hall i a hi hgi⟩) a.frame.fn a.frame.place helt
      have hdeaf : ∀ k, k ≠ 0 → Deaf (t ++ #[({ g := 0, fn := a.frame.fn, pos := a.frame.place, act := .recvClosed e } : MemOp)]) k = Deaf t k := fun k hk =>
        Deaf_other t (fun x => hk x.symm) _ (by intro op hop; simp only [List.mem_toArray, List.mem_cons, List.not_mem_nil, or_false] at hop; subst hop; rfl)
      refine ⟨1, _, d, sl', t ++ #[({ g := 0, fn := a.frame.fn, pos := a.frame.place, act := .recvClosed e } : MemOp)], q, by simp only [runNT, hst, hrunT, hem, Array.empty_append], hsz, by rw [Array.getElem?_setIfInBounds_self_of_lt hlt]; rfl,
        ⟨fun k y hk hy => ?_, fun k hk => ?_⟩, PastH.toPast hfound rfl (fun _ h => h)⟩
      · rw [Array.getElem?_setIfInBounds_ne (by omega)] at hy
        rw [hdeaf k (by omega)]
        exact hL.old k y hk hy
      · rw [hsz] at hk
        rw [hdeaf k (by omega)]
        exact hL.above k hk
    · have hi0 : (i == 0) = false := by simpa using hz
      have hq := hL.old i g (by omega) hi
      cases hqi : q i with
      | zero => rw [hqi] at hq; rw [hq.1] at hg; cases hg
      | succ k =>
        rw [hqi] at hq
        rcases hq with ⟨hf, _⟩ | ⟨_, g', es', hm, hstp, hq'⟩
        · rw [hf] at hg; cases hg
        have hrunT := runT_crowd_go (P := P) (sl := sl') (i := i) hi (by rw [hi0]; exact hstp (w.at d))
        have hu : ∀ op ∈ MemOp.ofEvents i g.frame.fn g.frame.place es', op.g = i := by intro op hop; obtain ⟨e, _, rfl⟩ := Go.Conc.mem_ofEvents hop; rfl
        have hn : ∀ op ∈ MemOp.ofEvents i g.frame.fn g.frame.place es', op.act.touch? = none := by intro op hop; obtain ⟨e, he, rfl⟩ := Go.Conc.mem_ofEvents hop; exact touch_mute (hm e he)
        have hdeaf : ∀ k, k ≠ i → Deaf (t ++ MemOp.ofEvents i g.frame.fn g.frame.place es') k = Deaf t k := fun k hk => Deaf_other t (fun x => hk x.symm) _ hu
        have hsz : ((gs.map (woken P g g' (w.at d))).setIfInBounds i g').size = gs.size := by simp
        have hsum : sumTo gs.size (upd q i k) + (k + 1) = sumTo gs.size q + k := by
          have := sumTo_upd q k id hlt
          simpa [hqi] using this
        obtain ⟨N, gs', d', sl'', t', q', hr, hs', h0', hL', hP'⟩ := ihM (M - 1) (by omega) ((gs.map (woken P g g' (w.at d))).setIfInBounds i g') (w.at d) sl' (t ++ MemOp.ofEvents i g.frame.fn g.frame.place es') (upd q i k) m (by rw [hsz]; omega)
          (by
            rw [Array.getElem?_setIfInBounds_ne hz, Array.getElem?_map, h0]
            simp [woken_run hxr])
          ⟨fun k' y hk0 hy => by
            by_cases hji : i = k'
            · subst hji
              rw [Array.getElem?_setIfInBounds_self_of_lt (by simpa using hlt)] at hy
              obtain rfl := Option.some.inj hy
              rw [upd_same, Deaf_own]
              exact hq'
            · rw [Array.getElem?_setIfInBounds_ne hji, Array.getElem?_map] at hy
              obtain ⟨y', hy', rfl⟩ := Option.map_eq_some_iff.1 hy
              have hqj := hL.old k' y' hk0 hy'
              rw [woken_quitsD hqj, upd_ne q k (Ne.symm hji), hdeaf k' (Ne.symm hji)]
              exact hqj,
           fun k' hk => by
            rw [hsz] at hk
            rw [hdeaf k' (by omega)]
            exact hL.above k' hk⟩
          (PastH.appMute hP hu hn (fun hmem => absurd hmem hz) (by intro op hop; obtain ⟨e, he, rfl⟩ := Go.Conc.mem_ofEvents hop; exact low_mute (hm e he) _))
          (hC.app hn) ⟨s, r, tm, hcd⟩ ⟨s', r', tm', hed⟩
        exact ⟨N + 1, gs', d', sl'', t', q', by simp only [runNT, hst, hrunT]; exact hr, hs'.trans hsz, h0', hL', hP'⟩
end
end Go.Proofs.Ytnahlemchajfdaa.Meta
namespace Go.Proofs.Ytnahlemchajfdaa.Meta
open Go Go.Conc
open Go.ConcN (sumTo upd sumTo_upd upd_ne upd_same)

section
variable (P : Program) (K : World → Prop) (Still : Loc → Prop) (e : Nat)
/-- The worker stands at its close of e, behind which it only leaves. -/
def CloseAt (B : Nat) (g : Goroutine) : Prop :=
  g.status = .running ∧ mayWake P g = true ∧ ∃ (g' : Goroutine) (n : Nat), g'.status = .running ∧ QuitsD P n 0 g' ∧
    ∀ w, K w → ∀ s r tm, w.heap[e]? = some (.chan 0 #[] false s r tm) → ∃ (d : Nat) (es0 : Array Event), (∀ x ∈ es0, RdEv Still B x) ∧ stepG P false g w = .go g' ((w.at d).setChan e 0 #[] true s r tm) (es0.push ⟨.obj e, true, true⟩)
def PureC (B : Nat) : Nat → Goroutine → Prop
  | 0, g => CloseAt P K Still e B g
  | n + 1, g => CloseAt P K Still e B g ∨ (g.status = .running ∧ ∃ g', (∀ w, K w → ∃ d es, (∀ x ∈ es, RdEv Still B x) ∧ stepG P false g w = .go g' (w.at d) es) ∧ PureC B n g')
end

section
variable {P : Program} {K : World → Prop} {Still : Loc → Prop} {c e : Nat} {z0 z1 : Value} {B j : Nat} {a : Goroutine}

theorem PureC.running {n : Nat} {g : Goroutine} (h : PureC P K Still e B n g) : g.status = .running := by
  cases n with
  | zero => exact h.1
  | succ n => exact h.elim (fun x => x.1) fun x => x.1

/-- Where the close leads. -/
def Shuts (P : Program) (Still : Loc → Prop) (c e : Nat) (cases : Array CommCase) (j : Nat) (a : Goroutine) (gs : Array Goroutine) (w : World) (sl : Option (Nat × Nat)) (t : Trace) : Prop :=
  ∃ (N : Nat) (gs' : Array Goroutine) (x : Goroutine) (w' : World) (sl' : Option (Nat × Nat)) (t' : Trace) (q' : Nat → Nat) (m s r d : Nat) (tm : Bool),
    runNT P N (crowd gs w sl) t = (.next (crowd gs' w' sl'), t') ∧ gs'.size = gs.size ∧ gs'[0]? = some x ∧ (x = a ∨ x = { parked a cases .select with status := .running }) ∧ Leavers P t' gs' q' ∧
    PastH Still (fun g => g = 0) (fun g => g = j) w'.heap.size 0 t' ∧ Closed e j m t' ∧ w.heap[e]? = some (.chan 0 #[] false s r tm) ∧ w' = (w.at d).setChan e 0 #[] true s r tm

theorem Shuts.head {cases : Array CommCase} {gs gs1 : Array Goroutine} {w : World} {d1 : Nat} {sl sl1 : Option (Nat × Nat)} {t t1 : Trace} (hsz : gs1.size = gs.size)
    (hst : ∀ N, runNT P (N + 1) (crowd gs w sl) t = runNT P N (crowd gs1 (w.at d1) sl1) t1) (h : Shuts P Still c e cases j a gs1 (w.at d1) sl1 t1) : Shuts P Still c e cases j a gs w sl t := by
  obtain ⟨N, gs', x, w', sl', t', q', m, s, r, d, tm, h1, h2, h3, h4, h5, h6, h7, h8, h9⟩ := h
  exact ⟨N + 1, gs', x, w', sl', t', q', m, s, r, d, tm, (hst N).trans h1, h2.trans hsz, h3, h4, h5, h6, h7, h8, h9⟩

/-- THE HOLDER COMES TO ITS SELECT, THE WORKER TO ITS CLOSE, WHOEVER COMES FIRST. -/
theorem shuts (hKat : ∀ w d, K w → K (w.at d)) (hj0 : j ≠ 0) (hce : e ≠ c) (ha : AtSel P K c e z0 z1 a) :
    ∀ (M n : Nat) (b : Bool) (gs : Array Goroutine) (gw : Goroutine) (w : World) (sl : Option (Nat × Nat)) (t : Trace) (q : Nat → Nat),
      sumTo gs.size q + n + (if b then 0 else 1) ≤ M → gs[0]? = some (if b then parked a #[rcase c z0, rcase e z1] .select else a) → gs[j]? = some gw → PureC P K Still e B n gw →
      (∀ i g, 0 < i → i ≠ j → gs[i]? = some g → QuitsD P (q i) (Deaf t i) g) → (∀ i, gs.size ≤ i → Deaf t i = 0) → PastH Still (fun g => g = 0 ∨ g = j) (fun g => g = j) w.heap.size 0 t → K w → B ≤ w.heap.size →
      (∃ s r tm, w.heap[c]? = some (.chan 0 #[] false s r tm)) → (∃ s r tm, w.heap[e]? = some (.chan 0 #[] false s r tm)) → Shuts P Still c e #[rcase c z0, rcase e z1] j a gs w sl t := by
  intro M
  induction M using Nat.strongRecOn with
  | ind M ihM =>
    intro n b gs gw w sl t q hM h0 hgw hpc hold habove hpast hK hB hc he
    obtain ⟨s, r, tm, hc⟩ := hc
    obtain ⟨s', r', tm', he'⟩ := he
    have hopen : ∀ d, ∀ cc ∈ (#[rcase c z0, rcase e z1] : Array CommCase), ∃ c z cap buf s r tm, cc = rcase c z ∧ (w.at d).heap[c]? = some (.chan cap buf false s r tm) := by
      intro d cc hcc
      have : cc = rcase c z0 ∨ cc = rcase e z1 := by simpa using hcc
      rcases this with rfl | rfl
      · exact ⟨c, z0, 0, #[], s, r, tm, rfl, hc⟩
      · exact ⟨e, z1, 0, #[], s', r', tm', rfl, he'⟩
    have hmain : ∀ x x' d, woken P x x' (w.at d) (if b then parked a #[rcase c z0, rcase e z1] .select else a) = (if b then parked a #[rcase c z0, rcase e z1] .select else a) := by
      intro x x' d
      cases b with
      | false => exact woken_run ha.1
      | true =>
        show woken P x x' (w.at d) (parked a _ _) = _
        unfold Go.Conc.woken
        split
        · exact again_all_open (hopen d)
        · rfl
    have haw : ∀ g ∈ gs, awake g := by
      intro g hg
      obtain ⟨i, hi, rfl⟩ := Array.mem_iff_getElem.1 hg
      by_cases hz : i = 0
      · subst hz
        have : gs[0] = (if b then parked a #[rcase c z0, rcase e z1] .select else a) := by simpa [Array.getElem?_eq_getElem hi] using h0
        rw [this]
        cases b with
        | false => exact awake_of (.inl ha.1)
        | true => exact awake_of (.inr (.inl rfl))
      · by_cases hij : i = j
        · subst hij
          have : gs[i] = gw := by simpa [Array.getElem?_eq_getElem hi] using hgw
          rw [this]
          exact awake_of (.inl hpc.running)
        · exact awake_of ((hold i _ (by omega) hij (Array.getElem?_eq_getElem hi)).status.elim .inl fun x => .inr (.inr x))
    obtain ⟨i, g, d, sl', hi, hg, hst⟩ := crowd_pick (P := P) (w := w) (sl := sl) haw ⟨j, gw, hgw, hpc.running⟩
    have hlt : i < gs.size := (Array.getElem?_eq_some_iff.1 hi).1
    have hKd : K (w.at d) := hKat w d hK
    have hcd : (w.at d).heap[c]? = some (.chan 0 #[] false s r tm) := hc
    have hed : (w.at d).heap[e]? = some (.chan 0 #[] false s' r' tm') := he'
    have helt : e < w.heap.size := (Array.getElem?_eq_some_iff.1 he').1
    by_cases hz : i = 0
    · -- the holder comes to its select: it parks
      subst hz
      cases b with
      | true =>
        have : g = parked a #[rcase c z0, rcase e z1] .select := Option.some.inj (hi.symm.trans h0)
        rw [this] at hg; cases hg
      | false =>
        obtain rfl : g = a := Option.some.inj (hi.symm.trans h0)
        have hno : ∀ k b, partners (gs.setIfInBounds 0 ph) k b = [] := fun k b => partners_nil fun n y hn => by
          rcases getElem?_stand gs 0 n y hn with ⟨_, rfl⟩ | ⟨hne, hy⟩
          · exact offersAt_ph k b
          · by_cases hnj : n = j
            · subst hnj
              obtain rfl : gw = y := Option.some.inj (hgw.symm.trans hy)
              exact offersAt_of_not_blocked (by rw [hpc.running]; simp) _ _
            · exact offersAt_of_not_blocked (by rcases (hold n y (by omega) hnj hy).status with z | z <;> rw [z] <;> simp) _ _
        have hrunT := crowd_waits (P := P) (sl := sl') (i := 0) hi (ha.2 (w.at d) hKd) (fun cc hcc => by
          have : cc = rcase c z0 ∨ cc = rcase e z1 := by simpa using hcc
          rcases this with rfl | rfl
          · exact ways_recv_none hcd (hno c true)
          · exact ways_recv_none hed (hno e true))
        have hem : MemOp.ofEvents 0 g.frame.fn g.frame.place #[] = #[] := rfl
        have hsz : (gs.setIfInBounds 0 (parked g #[rcase c z0, rcase e z1] .select)).size = gs.size := by simp
        refine Shuts.head hsz (d1 := d) (sl1 := sl') (t1 := t) (fun N => by simp only [runNT, hst, hrunT, hem, Array.append_empty]) ?_
        refine ihM (M - 1) (by simp at hM; omega) n true _ gw (w.at d) sl' t q (by rw [hsz]; simp at hM ⊢; omega) (Array.getElem?_setIfInBounds_self_of_lt hlt) (by rw [Array.getElem?_setIfInBounds_ne (fun x => hj0 x.symm)]; exact hgw) hpc
          (fun k x hk0 hkj hx => by
            rw [Array.getElem?_setIfInBounds_ne (by omega)] at hx
            exact hold k x hk0 hkj hx) (fun k hk => habove k (by rw [hsz] at hk; exact hk)) hpast hKd hB ⟨s, r, tm, hcd⟩ ⟨s', r', tm', hed⟩
    · have hi0 : (i == 0) = false := by simpa using hz
      by_cases hij : i = j
      · -- the worker's
        subst hij
        obtain rfl : g = gw := Option.some.inj (hi.symm.trans hgw)
        have hclose : CloseAt P K Still e B g → Shuts P Still c e #[rcase c z0, rcase e z1] i a gs w sl t := by
          rintro ⟨_, hmay, g', n0, hr', hq', hstp⟩
          obtain ⟨d', es0, hrd, hgo⟩ := hstp (w.at d) hKd s' r' tm' hed
          have hww : (w.at d).at d' = w.at d' := rfl
          rw [hww] at hgo
          have hrunT := runT_crowd_go (P := P) (sl := sl') (i := i) hi (by rw [hi0]; exact hgo)
          have hsz : ((gs.map (woken P g g' ((w.at d').setChan e 0 #[] true s' r' tm'))).setIfInBounds i g').size = gs.size := by simp
          have he2 : ((w.at d').setChan e 0 #[] true s' r' tm').heap[e]? = some (.chan 0 #[] true s' r' tm') := by
            simp only [World.setChan]
            exact Array.getElem?_setIfInBounds_self_of_lt helt
          have hsize : ((w.at d').setChan e 0 #[] true s' r' tm').heap.size = w.heap.size := by simp [World.setChan]; rfl
          -- the trace
          have hspl : t ++ MemOp.ofEvents i g.frame.fn g.frame.place (es0.push ⟨.obj e, true, true⟩) = (t ++ MemOp.ofEvents i g.frame.fn g.frame.place es0) ++ #[({ g := i, fn := g.frame.fn, pos := g.frame.place, act := .close e } : MemOp)] := by
            rw [ofEvents_eq, ofEvents_eq, Array.map_push, Array.append_assoc, ← Array.push_eq_append]
            rfl
          have hu0 : ∀ op ∈ MemOp.ofEvents i g.frame.fn g.frame.place es0, op.g = i := by intro op hop; obtain ⟨x, _, rfl⟩ := Go.Conc.mem_ofEvents hop; rfl
          have hd0 : Deaf (t ++ MemOp.ofEvents i g.frame.fn g.frame.place es0) i = Deaf t i := by
            rw [Deaf_own]
            exact deafBehind_still (fun x hx => ⟨(hrd x hx).2.1, (hrd x hx).2.2.1⟩) _
          have hP0 := PastH.appRead (u := MemOp.ofEvents i g.frame.fn g.frame.place es0) hpast (.inr rfl) rfl hu0 (by
              intro op hop b hb
              obtain ⟨x, hx, rfl⟩ := Go.Conc.mem_ofEvents hop
              exact (hrd x hx).1 b hb) hd0
            (by
              intro op hop
              obtain ⟨x, hx, rfl⟩ := Go.Conc.mem_ofEvents hop
              exact MemAct.low_mono hB (hrd x hx).2.2.2)
          generalize ht1 : t ++ MemOp.ofEvents i g.frame.fn g.frame.place es0 = t1 at hspl hP0 hd0
          have hq1 : ∀ gg, ∀ op ∈ (#[({ g := i, fn := g.frame.fn, pos := g.frame.place, act := .close e } : MemOp)] : Trace), ∀ dd, deafStep gg dd op = dd := by
            intro gg op hop dd
            simp only [List.mem_toArray, List.mem_cons, List.not_mem_nil, or_false] at hop
            subst hop; rfl
          have hP1 := pastH_quiet hP0 (u := #[({ g := i, fn := g.frame.fn, pos := g.frame.place, act := .close e } : MemOp)])
            (by intro op hop; simp only [List.mem_toArray, List.mem_cons, List.not_mem_nil, or_false] at hop; subst hop; rfl) hq1
            (by intro op hop; simp only [List.mem_toArray, List.mem_cons, List.not_mem_nil, or_false] at hop; subst hop; exact helt)
          have hlast : (t1 ++ #[({ g := i, fn := g.frame.fn, pos := g.frame.place, act := .close e } : MemOp)])[t1.size]? = some { g := i, fn := g.frame.fn, pos := g.frame.place, act := .close e } := by simp
          have hdeaf : ∀ k, k ≠ i → Deaf (t1 ++ #[({ g := i, fn := g.frame.fn, pos := g.frame.place, act := .close e } : MemOp)]) k = Deaf t k := by
            intro k hk
            rw [Deaf_quiet (hq1 k), ← ht1]
            exact Deaf_other t (fun x => hk x.symm) _ hu0
          have hdi : Deaf (t1 ++ #[({ g := i, fn := g.frame.fn, pos := g.frame.place, act := .close e } : MemOp)]) i = 0 := by
            rw [Deaf_quiet (hq1 i), hd0]
            exact hpast.hears i (.inr rfl)
          refine ⟨1, _, (if b then { parked a #[rcase c z0, rcase e z1] .select with status := .running } else a), _, sl', (t1 ++ #[({ g := i, fn := g.frame.fn, pos := g.frame.place, act := .close e } : MemOp)]), upd q i n0, t1.size, s', r', d', tm',
            by simp only [runNT, hst, hrunT, hspl], hsz, ?_, ?_, ⟨fun k y hk hy => ?_, fun k hk => ?_⟩, ?_, ⟨⟨_, hlast, rfl, rfl⟩, ?_, fun k x hx hgx => ?_⟩, he', rfl⟩
          · rw [Array.getElem?_setIfInBounds_ne hz, Array.getElem?_map, h0]
            cases b with
            | false => simp [woken_run ha.1]
            | true =>
              simp only [if_true, Option.map_some]
              unfold Go.Conc.woken
              rw [if_pos (by rw [hmay, hr']; rfl), again_some_closed (k := 1) (z := z1) rfl he2]
          · cases b with
            | false => exact .inl rfl
            | true => exact .inr rfl
          · by_cases hki : i = k
            · subst hki
              rw [Array.getElem?_setIfInBounds_self_of_lt (by simpa using hlt)] at hy
              obtain rfl := Option.some.inj hy
              rw [upd_same, hdi]
              exact hq'
            · rw [Array.getElem?_setIfInBounds_ne hki, Array.getElem?_map] at hy
              obtain ⟨y', hy', rfl⟩ := Option.map_eq_some_iff.1 hy
              have hqj := hold k y' hk (Ne.symm hki) hy'
              rw [woken_quitsD hqj, upd_ne q n0 (Ne.symm hki), hdeaf k (Ne.symm hki)]
              exact hqj
          · rw [hsz] at hk
            rw [hdeaf k (by omega)]
            exact habove k hk
          · rw [hsize]
            exact PastG.fewer hP1 (fun g hg => .inl hg)
          · rw [deaf_old (Nat.le_refl _)]
            exact hd0.trans (hpast.hears i (.inr rfl))
          · obtain ⟨y, hy, hya⟩ := touch_of hx
            rcases getElem?_append_cases hy with ⟨hil, _⟩ | ⟨_, hyu⟩
            · exact hil
            · simp only [List.mem_toArray, List.mem_cons, List.not_mem_nil, or_false] at hyu
              subst hyu
              cases hya
        cases n with
        | zero => exact hclose hpc
        | succ n =>
          rcases hpc with hp | ⟨_, g', hstp, hp'⟩
          · exact hclose hp
          · obtain ⟨d', es', hrd, hgo⟩ := hstp (w.at d) hKd
            have hrunT := runT_crowd_go (P := P) (sl := sl') (i := i) hi (by rw [hi0]; exact hgo)
            have hww : (w.at d).at d' = w.at d' := rfl
            rw [hww] at hrunT
            have hu : ∀ op ∈ MemOp.ofEvents i g.frame.fn g.frame.place es', op.g = i := by intro op hop; obtain ⟨e, _, rfl⟩ := Go.Conc.mem_ofEvents hop; rfl
            have hdeaf : ∀ k, k ≠ i → Deaf (t ++ MemOp.ofEvents i g.frame.fn g.frame.place es') k = Deaf t k := fun k hk => Deaf_other t (fun x => hk x.symm) _ hu
            have hsz : ((gs.map (woken P g g' (w.at d'))).setIfInBounds i g').size = gs.size := by simp
            refine Shuts.head hsz (d1 := d') (sl1 := sl') (t1 := t ++ MemOp.ofEvents i g.frame.fn g.frame.place es') (fun N => by simp only [runNT, hst, hrunT]) ?_
            refine ihM (M - 1) (by omega) n b _ g' (w.at d') sl' _ q (by rw [hsz]; omega)
              (by rw [Array.getElem?_setIfInBounds_ne hz, Array.getElem?_map, h0]; simp [hmain]) (Array.getElem?_setIfInBounds_self_of_lt (by simpa using hlt)) hp'
              (fun k x hk0 hkj hx => by
                rw [Array.getElem?_setIfInBounds_ne (Ne.symm hkj), Array.getElem?_map] at hx
                obtain ⟨y, hy, rfl⟩ := Option.map_eq_some_iff.1 hx
                have hq := hold k y hk0 hkj hy
                rw [woken_quitsD hq, hdeaf k hkj]
                exact hq)
              (fun k hk => by
                rw [hsz] at hk
                rw [hdeaf k (by omega)]
                exact habove k hk)
              (PastH.appRead hpast (.inr rfl) rfl hu (by
                  intro op hop b hb
                  obtain ⟨e, he, rfl⟩ := Go.Conc.mem_ofEvents hop
                  exact (hrd e he).1 b hb)
                (by
                  rw [Deaf_own]
                  exact deafBehind_still (fun e he => ⟨(hrd e he).2.1, (hrd e he).2.2.1⟩) _)
                (by
                  intro op hop
                  obtain ⟨e, he, rfl⟩ := Go.Conc.mem_ofEvents hop
                  exact MemAct.low_mono hB (hrd e he).2.2.2))
              (hKat _ _ hK) hB ⟨s, r, tm, hc⟩ ⟨s', r', tm', he'⟩
      · -- a leaver's
        have hq := hold i g (by omega) hij hi
        cases hqi : q i with
        | zero => rw [hqi] at hq; rw [hq.1] at hg; cases hg
        | succ k =>
          rw [hqi] at hq
          rcases hq with ⟨hf, _⟩ | ⟨_, g', es', hm, hstp, hq'⟩
          · rw [hf] at hg; cases hg
          have hrunT := runT_crowd_go (P := P) (sl := sl') (i := i) hi (by rw [hi0]; exact hstp (w.at d))
          have hu : ∀ op ∈ MemOp.ofEvents i g.frame.fn g.frame.place es', op.g = i := by intro op hop; obtain ⟨e, _, rfl⟩ := Go.Conc.mem_ofEvents hop; rfl
          have hdeaf : ∀ k, k ≠ i → Deaf (t ++ MemOp.ofEvents i g.frame.fn g.frame.place es') k = Deaf t k := fun k hk => Deaf_other t (fun x => hk x.symm) _ hu
          have hsz : ((gs.map (woken P g g' (w.at d))).setIfInBounds i g').size = gs.size := by simp
          have hsum : sumTo gs.size (upd q i k) + (k + 1) = sumTo gs.size q + k := by
            have := sumTo_upd q k id hlt
            simpa [hqi] using this
          refine Shuts.head hsz (d1 := d) (sl1 := sl') (t1 := t ++ MemOp.ofEvents i g.frame.fn g.frame.place es') (fun N => by simp only [runNT, hst, hrunT]) ?_
          refine ihM (M - 1) (by omega) n b _ gw (w.at d) sl' _ (upd q i k) (by rw [hsz]; omega)
            (by rw [Array.getElem?_setIfInBounds_ne hz, Array.getElem?_map, h0]; simp [hmain])
            (by
              rw [Array.getElem?_setIfInBounds_ne hij, Array.getElem?_map, hgw]
              simp [woken_run hpc.running]) hpc
            (fun k' x hk0 hkj hx => by
              by_cases hji : i = k'
              · subst hji
                rw [Array.getElem?_setIfInBounds_self_of_lt (by simpa using hlt)] at hx
                obtain rfl := Option.some.inj hx
                rw [upd_same, Deaf_own]
                exact hq'
              · rw [Array.getElem?_setIfInBounds_ne hji, Array.getElem?_map] at hx
                obtain ⟨y, hy, rfl⟩ := Option.map_eq_some_iff.1 hx
                have hqj := hold k' y hk0 hkj hy
                rw [woken_quitsD hqj, upd_ne q k (Ne.symm hji), hdeaf k' (Ne.symm hji)]
                exact hqj)
            (fun k' hk => by
              rw [hsz] at hk
              rw [hdeaf k' (by omega)]
              exact habove k' hk)
            (PastH.appMute hpast hu (by intro op hop; obtain ⟨e, he, rfl⟩ := Go.Conc.mem_ofEvents hop; exact touch_mute (hm e he))
              (fun hmem => absurd hmem (by omega)) (by intro op hop; obtain ⟨e, he, rfl⟩ := Go.Conc.mem_ofEvents hop; exact low_mute (hm e he) _))
            hKd hB ⟨s, r, tm, hcd⟩ ⟨s', r', tm', hed⟩
end
end Go.Proofs.Ytnahlemchajfdaa.Meta
namespace Go.Proofs.Ytnahlemchajfdaa.Meta
open Go Go.Conc
open Go.ConcN (sumTo upd sumTo_upd upd_ne upd_same)

section
variable {P : Program} {Still : Loc → Prop} {a a' child : Goroutine}

/-- THE HOLDER's go STATEMENT, BESIDE LEAVERS: the child is the last, loose. -/
theorem starts (hS : ∀ l, Still l → l.isMemory = true) (ha : a.status = .running) (hgo : ∀ w, stepG P true a w = .spawn a' child w #[]) :
    ∀ (M : Nat) (gs : Array Goroutine) (w : World) (sl : Option (Nat × Nat)) (t : Trace) (q : Nat → Nat), sumTo gs.size q ≤ M → gs[0]? = some a → Leavers P t gs q → Past NoShun w.heap.size t →
      ∃ (N : Nat) (gs' : Array Goroutine) (d : Nat) (sl' : Option (Nat × Nat)) (t' : Trace) (q' : Nat → Nat),
        runNT P N (crowd gs w sl) t = (.next (crowd gs' (w.at d) sl'), t') ∧ gs'.size = gs.size + 1 ∧ gs'[0]? = some a' ∧ gs'[gs.size]? = some child ∧
        (∀ i g, 0 < i → i ≠ gs.size → gs'[i]? = some g → QuitsD P (q' i) (Deaf t' i) g) ∧ (∀ i, gs'.size ≤ i → Deaf t' i = 0) ∧
        PastH Still (fun g => g = 0 ∨ g = gs.size) (fun g => g = gs.size) w.heap.size 0 t' := by
  intro M
  induction M using Nat.strongRecOn with
  | ind M ihM =>
    intro gs w sl t q hM h0 hL hP
    have haw : ∀ g ∈ gs, awake g := by
      intro g hg
      obtain ⟨i, hi, rfl⟩ := Array.mem_iff_getElem.1 hg
      by_cases hz : i = 0
      · subst hz
        have : gs[0] = a := by simpa [Array.getElem?_eq_getElem hi] using h0
        rw [this]; exact awake_of (.inl ha)
      · exact awake_of ((hL.old i _ (by omega) (Array.getElem?_eq_getElem hi)).status.elim .inl fun x => .inr (.inr x))
    obtain ⟨i, g, d, sl', hi, hg, hst⟩ := crowd_pick (P := P) (w := w) (sl := sl) haw ⟨0, a, h0, ha⟩
    have hlt : i < gs.size := (Array.getElem?_eq_some_iff.1 hi).1
    by_cases hz : i = 0
    · subst hz
      obtain rfl : g = a := Option.some.inj (hi.symm.trans h0)
      have hrunT := runT_crowd_spawn (P := P) (sl := sl') (i := 0) hi (hgo (w.at d))
      have hem : MemOp.ofEvents 0 g.frame.fn g.frame.place #[] = #[] := rfl
      rw [hem] at hrunT
      have hH := (PastH.ofPast (Still := Still) hP hS).hire (c := gs.size) rfl (hL.above _ (Nat.le_refl _)) g.frame.fn g.frame.place child.frame.fn
      have hq : ∀ k, ∀ op ∈ (#[{ g := 0, fn := g.frame.fn, pos := g.frame.place, act := .go gs.size }, { g := gs.size, fn := child.frame.fn, pos := g.frame.place, act := .start }] : Trace), ∀ dd, deafStep k dd op = dd := by
        intro k op hop dd
        simp only [List.mem_toArray, List.mem_cons, List.not_mem_nil, or_false] at hop
        rcases hop with rfl | rfl <;> rfl
      refine ⟨1, _, d, sl', t ++ #[{ g := 0, fn := g.frame.fn, pos := g.frame.place, act := .go gs.size }, { g := gs.size, fn := child.frame.fn, pos := g.frame.place, act := .start }], q, by simp only [runNT, hst, hrunT]; rfl, by simp, ?_, ?_, fun k x hk0 hkn hx => ?_, fun k hk => ?_,
        ?_⟩
      · rw [Array.getElem?_push_lt (by simpa using hlt)]
        simp
      · rw [Array.getElem?_push]
        simp
      · have hkl : k < gs.size := by
          have := (Array.getElem?_eq_some_iff.1 hx).1
          simp at this
          omega
        rw [Array.getElem?_push, if_neg (by simp; omega), Array.getElem?_setIfInBounds_ne (by omega)] at hx
        rw [Deaf_quiet (hq k)]
        exact hL.old k x hk0 hx
      · rw [Deaf_quiet (hq k)]
        exact hL.above k (by simp at hk; omega)
      · exact ⟨hH.clean, fun i a hi hm => (hH.known i a hi hm).imp id fun ⟨x, y, g, hg, hl⟩ => ⟨x, y, g, hg, hl.elim False.elim id⟩, hH.wrote, hH.hears, hH.seen⟩
    · have hi0 : (i == 0) = false := by simpa using hz
      have hq := hL.old i g (by omega) hi
      cases hqi : q i with
      | zero => rw [hqi] at hq; rw [hq.1] at hg; cases hg
      | succ k =>
        rw [hqi] at hq
        rcases hq with ⟨hf, _⟩ | ⟨_, g', es', hm, hstp, hq'⟩
        · rw [hf] at hg; cases hg
        have hrunT := runT_crowd_go (P := P) (sl := sl') (i := i) hi (by rw [hi0]; exact hstp (w.at d))
        have hu : ∀ op ∈ MemOp.ofEvents i g.frame.fn g.frame.place es', op.g = i := by intro op hop; obtain ⟨e, _, rfl⟩ := Go.Conc.mem_ofEvents hop; rfl
        have hdeaf : ∀ k, k ≠ i → Deaf (t ++ MemOp.ofEvents i g.frame.fn g.frame.place es') k = Deaf t k := fun k hk => Deaf_other t (fun x => hk x.symm) _ hu
        have hsz : ((gs.map (woken P g g' (w.at d))).setIfInBounds i g').size = gs.size := by simp
        have hsum : sumTo gs.size (upd q i k) + (k + 1) = sumTo gs.size q + k := by
          have := sumTo_upd q k id hlt
          simpa [hqi] using this
        obtain ⟨N, gs', d', sl'', t', q', hr, hs', h1, h2, h3, h4, h5⟩ := ihM (M - 1) (by omega) ((gs.map (woken P g g' (w.at d))).setIfInBounds i g') (w.at d) sl' (t ++ MemOp.ofEvents i g.frame.fn g.frame.place es') (upd q i k) (by rw [hsz]; omega)
          (by
            rw [Array.getElem?_setIfInBounds_ne hz, Array.getElem?_map, h0]
            simp [woken_run ha])
          ⟨fun k' y hk0 hy => by
            by_cases hji : i = k'
            · subst hji
              rw [Array.getElem?_setIfInBounds_self_of_lt (by simpa using hlt)] at hy
              obtain rfl := Option.some.inj hy
              rw [upd_same, Deaf_own]
              exact hq'
            · rw [Array.getElem?_setIfInBounds_ne hji, Array.getElem?_map] at hy
              obtain ⟨y', hy', rfl⟩ := Option.map_eq_some_iff.1 hy
              have hqj := hL.old k' y' hk0 hy'
              rw [woken_quitsD hqj, upd_ne q k (Ne.symm hji), hdeaf k' (Ne.symm hji)]
              exact hqj,
           fun k' hk => by
            rw [hsz] at hk
            rw [hdeaf k' (by omega)]
            exact hL.above k' hk⟩
          (hP.mute hz hm)
        rw [hsz] at hs' h2 h3 h5
        exact ⟨N + 1, gs', d', sl'', t', q', by simp only [runNT, hst, hrunT]; exact hr, hs', h1, h2, h3, h4, h5⟩
end
end Go.Proofs.Ytnahlemchajfdaa.Meta
namespace Go.Proofs.Ytnahlemchajfdaa.Meta
open Go Go.Conc
open Go.ConcN (sumTo upd sumTo_upd upd_ne upd_same)

/-- A walk whose world may have been turned by R ahead of each step. -/
inductive GoesR (P : Program) (main : Bool) (R : World → World → Prop) (D : World → World → Array Event → Prop) (Stop : Goroutine → World → Prop) : Goroutine → World → Prop
  | stop {g : Goroutine} {w : World} : (∀ w1, R w w1 → Stop g w1) → GoesR P main R D Stop g w
  | step {g : Goroutine} {w : World} (g' : World → Goroutine) (w' : World → World) (es : World → Array Event) : g.status = .running →
      (∀ w1, R w w1 → stepG P main g w1 = .go (g' w1) (w' w1) (es w1) ∧ D w1 (w' w1) (es w1)) → (∀ w1, R w w1 → GoesR P main R D Stop (g' w1) (w' w1)) → GoesR P main R D Stop g w

/-- Another place of the tape, or e closed. -/
def RE (e : Nat) (w w1 : World) : Prop := ∃ d, w1 = w.at d ∨ ∃ s r tm, w.heap[e]? = some (.chan 0 #[] false s r tm) ∧ w1 = (w.at d).setChan e 0 #[] true s r tm

theorem RE.at (e : Nat) (w : World) (d : Nat) : RE e w (w.at d) := ⟨d, .inl rfl⟩
theorem RE.trans {e : Nat} {w w1 w2 : World} (h : RE e w w1) (k : RE e w1 w2) : RE e w w2 := by
  obtain ⟨d, rfl | ⟨s, r, tm, hs, rfl⟩⟩ := h
  · obtain ⟨d', rfl | ⟨s, r, tm, hs, rfl⟩⟩ := k
    · exact ⟨d', .inl rfl⟩
    · exact ⟨d', .inr ⟨s, r, tm, hs, rfl⟩⟩
  · have hlt : e < w.heap.size := (Array.getElem?_eq_some_iff.1 hs).1
    obtain ⟨d', rfl | ⟨s', r', tm', hs', rfl⟩⟩ := k
    · exact ⟨d', .inr ⟨s, r, tm, hs, rfl⟩⟩
    · exfalso
      have : ((w.at d).setChan e 0 #[] true s r tm).heap[e]? = some (.chan 0 #[] true s r tm) := by
        simp only [World.setChan]
        exact Array.getElem?_setIfInBounds_self_of_lt hlt
      rw [this] at hs'
      cases hs'

section
variable {P : Program} {main : Bool} {e : Nat} {D : World → World → Array Event → Prop} {Stop : Goroutine → World → Prop}

theorem GoesR.rely {g : Goroutine} {w w1 : World} (h : GoesR P main (RE e) D Stop g w) (k : RE e w w1) : GoesR P main (RE e) D Stop g w1 := by
  cases h with
  | stop h => exact .stop fun w2 h2 => h w2 (k.trans h2)
  | step g' w' es hr h1 h2 => exact .step g' w' es hr (fun w2 k2 => h1 w2 (k.trans k2)) fun w2 k2 => h2 w2 (k.trans k2)
theorem GoesR.to_W {g : Goroutine} {w : World} (h : GoesR P main (RE e) D Stop g w) : GoesW P main D Stop g w := by
  induction h with
  | stop h => exact .stop fun d => h _ (RE.at e _ d)
  | @step g w g' w' es hr h1 h2 ih => exact .step (fun d => g' (w.at d)) (fun d => w' (w.at d)) (fun d => es (w.at d)) hr (fun d => h1 _ (RE.at e w d)) fun d => ih _ (RE.at e w d)
theorem GoesR.of {g : Goroutine} {w : World} (hr : g.status = .running) (h : ∀ w1, RE e w w1 → ∃ g' w' es, stepG P main g w1 = .go g' w' es ∧ D w1 w' es ∧ GoesR P main (RE e) D Stop g' w') : GoesR P main (RE e) D Stop g w := by
  classical
  refine .step (fun w1 => if k : RE e w w1 then (h w1 k).choose else g) (fun w1 => if k : RE e w w1 then (h w1 k).choose_spec.choose else w1) (fun w1 => if k : RE e w w1 then (h w1 k).choose_spec.choose_spec.choose else #[]) hr (fun w1 k => ?_) fun w1 k => ?_
  · simp only [dif_pos k]
    exact ⟨(h w1 k).choose_spec.choose_spec.choose_spec.1, (h w1 k).choose_spec.choose_spec.choose_spec.2.1⟩
  · simp only [dif_pos k]
    exact (h w1 k).choose_spec.choose_spec.choose_spec.2.2
end

/-- What is asked of the holder's steps. -/
def DH (K : World → Prop) (Still : Loc → Prop) (c e : Nat) (w w' : World) (es : Array Event) : Prop :=
  DX K Still c w w' es ∧ w'.heap[e]? = w.heap[e]? ∧ Kept w w'

/-- It stands at its select over c and e. -/
def AtSelA (P : Program) (c e : Nat) (z0 z1 : Value) (a : Goroutine) : Prop :=
  a.status = .running ∧ ∀ w, stepG P true a w = .comm a #[rcase c z0, rcase e z1] true .select w #[]
theorem AtSelA.toK {P : Program} {K : World → Prop} {c e : Nat} {z0 z1 : Value} {a : Goroutine} (h : AtSelA P c e z0 z1 a) : AtSel P K c e z0 z1 a := ⟨h.1, fun w _ => h.2 w⟩

section
variable {P : Program} {K : World → Prop} {Still : Loc → Prop} {c e : Nat} {z0 z1 : Value} {B j m : Nat} {Stop : Goroutine → World → Prop}

theorem Closed.others {t u : Trace} (h : Closed e j m t) (hj0 : j ≠ 0) (hg : ∀ op ∈ u, op.g ≠ j) : Closed e j m (t ++ u) := by
  obtain ⟨⟨z, hz, hzg, ha⟩, hd, hall⟩ := h
  have hlt := lt_size_of_getElem? hz
  refine ⟨⟨z, by rw [getElem?_append_old hlt]; exact hz, hzg, ha⟩, by rw [deaf_old (Nat.le_of_lt hlt)]; exact hd, fun i a hi hgi => ?_⟩
  obtain ⟨x, hx, hxa⟩ := touch_of hi
  rcases getElem?_append_cases hx with ⟨hil, hx'⟩ | ⟨_, hxu⟩
  · exact hall i a (by rw [touchAt_of hx']; exact hxa) (by rw [g?_old hil] at hgi; exact hgi)
  · exfalso
    have := g?_of hx
    rw [hgi] at this
    exact hg x hxu (Option.some.inj this).symm

/-- THE HOLDER's WALK BEHIND THE CLOSE. -/
theorem walk_closed (hj0 : j ≠ 0) {a : Goroutine} {w : World} (h : GoesW P true (DH K Still c e) Stop a w) :
    ∀ (M d0 : Nat) (gs : Array Goroutine) (sl : Option (Nat × Nat)) (t : Trace) (q : Nat → Nat), sumTo gs.size q ≤ M → gs[0]? = some a → Leavers P t gs q → PastH Still (fun g => g = 0) (fun g => g = j) w.heap.size 0 t → Closed e j m t →
      (∃ s r tm, w.heap[c]? = some (.chan 0 #[] false s r tm)) → (∃ s r tm, w.heap[e]? = some (.chan 0 #[] true s r tm)) →
      ∃ (N : Nat) (gs' : Array Goroutine) (a' : Goroutine) (w' : World) (sl' : Option (Nat × Nat)) (t' : Trace) (q' : Nat → Nat),
        runNT P N (crowd gs (w.at d0) sl) t = (.next (crowd gs' w' sl'), t') ∧ gs'.size = gs.size ∧ gs'[0]? = some a' ∧ Stop a' w' ∧ Leavers P t' gs' q' ∧ PastH Still (fun g => g = 0) (fun g => g = j) w'.heap.size 0 t' ∧ Closed e j m t' ∧
        (∃ s r tm, w'.heap[c]? = some (.chan 0 #[] false s r tm)) ∧ (∃ s r tm, w'.heap[e]? = some (.chan 0 #[] true s r tm)) ∧ Kept w w' := by
  induction h with
  | @stop g w hs => exact fun M d0 gs sl t q _ h0 hL hP hC hc he => ⟨0, gs, g, w.at d0, sl, t, q, rfl, rfl, h0, hs d0, hL, hP, hC, hc, he, .refl _⟩
  | @step a w a' w' es hrun h1 _ ih =>
    intro M
    induction M using Nat.strongRecOn with
    | ind M ihM =>
      intro d0 gs sl t q hM h0 hL hP hC hc he
      have haw : ∀ g ∈ gs, awake g := by
        intro g hg
        obtain ⟨i, hi, rfl⟩ := Array.mem_iff_getElem.1 hg
        by_cases hz : i = 0
        · subst hz
          have : gs[0] = a := by simpa [Array.getElem?_eq_getElem hi] using h0
          rw [this]; exact awake_of (.inl hrun)
        · exact awake_of ((hL.old i _ (by omega) (Array.getElem?_eq_getElem hi)).status.elim .inl fun x => .inr (.inr x))
      obtain ⟨i, g, d, sl', hi, hg, hst⟩ := crowd_pick (P := P) (w := w.at d0) (sl := sl) haw ⟨0, a, h0, hrun⟩
      have hwat : (w.at d0).at d = w.at d := rfl
      rw [hwat] at hst
      have hlt : i < gs.size := (Array.getElem?_eq_some_iff.1 hi).1
      by_cases hz : i = 0
      · -- its own step
        subst hz
        obtain rfl : g = a := by rw [h0] at hi; exact (Option.some.inj hi).symm
        obtain ⟨hgo, ⟨hgrow, hev, hstill, hkeep, hchan⟩, hchane, hkept⟩ := h1 d
        have hrunT := runT_crowd_go (P := P) (sl := sl') (i := 0) hi (show stepG P (0 == 0) g (w.at d) = _ from hgo)
        have hu : ∀ op ∈ MemOp.ofEvents 0 g.frame.fn g.frame.place (es d), op.g = 0 := by intro op hop; obtain ⟨e, _, rfl⟩ := Go.Conc.mem_ofEvents hop; rfl
        have hdeaf : ∀ i, i ≠ 0 → Deaf (t ++ MemOp.ofEvents 0 g.frame.fn g.frame.place (es d)) i = Deaf t i := fun i hi => Deaf_other t (fun x => hi x.symm) _ hu
        have hsz : ((gs.map (woken P g (a' d) (w' d))).setIfInBounds 0 (a' d)).size = gs.size := by simp
        have hw : (w' d).at (w' d).drawn = w' d := rfl
        obtain ⟨N, gs', a'', w'', sl'', t', q', hr, hs', h0', hS, hL', hP', hC', hc', he', hK'⟩ := ih d (sumTo gs.size q) (w' d).drawn ((gs.map (woken P g (a' d) (w' d))).setIfInBounds 0 (a' d)) sl' (t ++ MemOp.ofEvents 0 g.frame.fn g.frame.place (es d)) q
          (by rw [hsz]; exact Nat.le_refl _) (by simp [hlt])
          ⟨fun j x hj hx => by
            rw [Array.getElem?_setIfInBounds_ne (by omega), Array.getElem?_map] at hx
            obtain ⟨y, hy, rfl⟩ := Option.map_eq_some_iff.1 hx
            have hq := hL.old j y hj hy
            rw [woken_quitsD hq, hdeaf j (by omega)]
            exact hq, fun j hj => by
            rw [hsz] at hj
            rw [hdeaf j (by omega)]
            exact hL.above j hj⟩
          (PastH.appH (PastG.mono hP hgrow) hu (by
              intro op hop b hb hs
              obtain ⟨e, he, rfl⟩ := Go.Conc.mem_ofEvents hop
              exact hstill e he b hb hs)
            (by
              rw [Deaf_own]
              exact deafBehind_still (fun e he => ⟨(evL_of (hev e he)).2.1, (evL_of (hev e he)).2.2.1⟩) _)
            (by intro op hop; obtain ⟨e, he, rfl⟩ := Go.Conc.mem_ofEvents hop; exact (evL_of (hev e he)).2.2.2))
          (hC.others hj0 fun op hop => by rw [hu op hop]; exact fun x => hj0 x.symm)
          (by obtain ⟨s, r, tm, x⟩ := hc; exact ⟨s, r, tm, hchan.trans x⟩) (by obtain ⟨s, r, tm, x⟩ := he; exact ⟨s, r, tm, hchane.trans x⟩)
        rw [hw] at hr
        exact ⟨N + 1, gs', a'', w'', sl'', t', q', by simp only [runNT, hst, hrunT]; exact hr, hs'.trans hsz, h0', hS, hL', hP', hC', hc', he', Kept.trans hkept hK'⟩
      · -- a leaver's
        have hq := hL.old i g (by omega) hi
        have hi0 : (i == 0) = false := by simpa using hz
        cases hqi : q i with
        | zero => rw [hqi] at hq; rw [hq.1] at hg; cases hg
        | succ k =>
          rw [hqi] at hq
          rcases hq with ⟨hf, _⟩ | ⟨_, g', es', hm, hstp, hq'⟩
          · rw [hf] at hg; cases hg
          have hrunT := runT_crowd_go (P := P) (sl := sl') (i := i) hi (by rw [hi0]; exact hstp (w.at d))
          have hsz : ((gs.map (woken P g g' (w.at d))).setIfInBounds i g').size = gs.size := by simp
          have hsum : sumTo gs.size (upd q i k) + (k + 1) = sumTo gs.size q + k := by
            have := sumTo_upd q k id hlt
            simpa [hqi] using this
          have hu : ∀ op ∈ MemOp.ofEvents i g.frame.fn g.frame.place es', op.g = i := by intro op hop; obtain ⟨e, _, rfl⟩ := Go.Conc.mem_ofEvents hop; rfl
          have hdeaf : ∀ j, j ≠ i → Deaf (t ++ MemOp.ofEvents i g.frame.fn g.frame.place es') j = Deaf t j := fun j hj => Deaf_other t (fun x => hj x.symm) _ hu
          obtain ⟨N, gs', a'', w'', sl'', t', q', hr, hs', h0', hS, hL', hP', hC', hc', he', hK'⟩ := ihM (M - 1) (by omega) d ((gs.map (woken P g g' (w.at d))).setIfInBounds i g') sl' (t ++ MemOp.ofEvents i g.frame.fn g.frame.place es') (upd q i k)
            (by rw [hsz]; omega)
            (by
              rw [Array.getElem?_setIfInBounds_ne hz, Array.getElem?_map, h0]
              simp [woken_run hrun])
            ⟨fun j x hj hx => by
              by_cases hji : i = j
              · subst hji
                rw [Array.getElem?_setIfInBounds_self_of_lt (by simpa using hlt)] at hx
                obtain rfl := Option.some.inj hx
                rw [upd_same, Deaf_own]
                exact hq'
              · rw [Array.getElem?_setIfInBounds_ne hji, Array.getElem?_map] at hx
                obtain ⟨y, hy, rfl⟩ := Option.map_eq_some_iff.1 hx
                have hqj := hL.old j y hj hy
                rw [woken_quitsD hqj, upd_ne q k (Ne.symm hji), hdeaf j (Ne.symm hji)]
                exact hqj, fun j hj => by
              rw [hsz] at hj
              rw [hdeaf j (by omega)]
              exact hL.above j hj⟩
            (PastH.appMute hP hu (by intro op hop; obtain ⟨e, he, rfl⟩ := Go.Conc.mem_ofEvents hop; exact touch_mute (hm e he))
                (fun hmem => absurd hmem (by omega)) (by intro op hop; obtain ⟨e, he, rfl⟩ := Go.Conc.mem_ofEvents hop; exact low_mute (hm e he) _))
            (hC.app (by intro op hop; obtain ⟨e, he, rfl⟩ := Go.Conc.mem_ofEvents hop; exact touch_mute (hm e he))) hc he
          exact ⟨N + 1, gs', a'', w'', sl'', t', q', by simp only [runNT, hst, hrunT]; exact hr, hs'.trans hsz, h0', hS, hL', hP', hC', hc', he', hK'⟩
/-- The select finds e closed: whether the holder has come to it just now or has been parked there. -/
theorem find_end (hce : e ≠ c) {a x : Goroutine} (ha : AtSelA P c e z0 z1 a) (hx : x = a ∨ x = { parked a #[rcase c z0, rcase e z1] .select with status := .running }) {gs : Array Goroutine} {w : World} {sl : Option (Nat × Nat)} {t : Trace} {q : Nat → Nat}
    (h0 : gs[0]? = some x) (hL : Leavers P t gs q) (hP : PastH Still (fun g => g = 0) (fun g => g = j) w.heap.size 0 t) (hC : Closed e j m t)
    (hc : ∃ s r tm, w.heap[c]? = some (.chan 0 #[] false s r tm)) (he : ∃ s r tm, w.heap[e]? = some (.chan 0 #[] true s r tm)) :
    ∃ (N : Nat) (gs' : Array Goroutine) (d : Nat) (sl' : Option (Nat × Nat)) (t' : Trace) (q' : Nat → Nat),
      runNT P N (crowd gs w sl) t = (.next (crowd gs' (w.at d) sl'), t') ∧ gs'.size = gs.size ∧ gs'[0]? = some (a.finishComm P #[rcase c z0, rcase e z1] .select 1 z1 false) ∧ Leavers P t' gs' q' ∧ Past NoShun w.heap.size t' := by
  have hxx : x.status = .running ∧ ∀ d w, stepG P true x (World.at w d) = .comm a #[rcase c z0, rcase e z1] true .select (World.at w d) #[] := by
    rcases hx with rfl | rfl
    · exact ⟨ha.1, fun d w => ha.2 _⟩
    · refine ⟨rfl, fun d w => ?_⟩
      rw [stepG_tries]
      have : ({ a with status := .running } : Goroutine) = a := by
        obtain ⟨f, cs, st, dy, off⟩ := a
        have h : st = .running := ha.1
        subst h
        rfl
      rw [this]
      exact ha.2 _
  exact finds hce hxx.1 hxx.2 _ gs w sl t q m (Nat.le_refl _) h0 hL hP hC hc he

/-- THE LAST WALK OF THE HOLDER's TO ITS SELECT: THE WORKER IS ON ITS WAY TO ITS CLOSE, AND CLOSES WHENEVER IT WILL. -/
theorem walk_shut (hSat : ∀ a w d, Stop a w → Stop a (World.at w d)) (hKat : ∀ w d, K w → K (w.at d)) (hj0 : j ≠ 0) (hce : e ≠ c) (hsel : ∀ a w, Stop a w → AtSelA P c e z0 z1 a) {a : Goroutine} {w : World} (h : GoesR P true (RE e) (DH K Still c e) Stop a w) :
    ∀ (M n d0 : Nat) (gs : Array Goroutine) (gw : Goroutine) (sl : Option (Nat × Nat)) (t : Trace) (q : Nat → Nat), sumTo gs.size q + n ≤ M → gs[0]? = some a → gs[j]? = some gw → PureC P K Still e B n gw →
      (∀ i g, 0 < i → i ≠ j → gs[i]? = some g → QuitsD P (q i) (Deaf t i) g) → (∀ i, gs.size ≤ i → Deaf t i = 0) → PastH Still (fun g => g = 0 ∨ g = j) (fun g => g = j) w.heap.size 0 t → K w → B ≤ w.heap.size →
      (∃ s r tm, w.heap[c]? = some (.chan 0 #[] false s r tm)) → (∃ s r tm, w.heap[e]? = some (.chan 0 #[] false s r tm)) →
      ∃ (N : Nat) (gs' : Array Goroutine) (a' : Goroutine) (w' : World) (sl' : Option (Nat × Nat)) (t' : Trace) (q' : Nat → Nat),
        runNT P N (crowd gs (w.at d0) sl) t = (.next (crowd gs' w' sl'), t') ∧ gs'.size = gs.size ∧ gs'[0]? = some (a'.finishComm P #[rcase c z0, rcase e z1] .select 1 z1 false) ∧ Stop a' w' ∧ Leavers P t' gs' q' ∧ Past NoShun w'.heap.size t' ∧ Kept w w' := by
  induction h with
  | @stop a w hs =>
    intro M n d0 gs gw sl t q _ h0 hgw hpc hold habove hP hK hB hc he
    have ha := hsel a w (hs w (RE.at e w w.drawn))
    obtain ⟨N, gs1, x, w1, sl1, t1, q1, m1, s, r, d, tm, hr1, hs1, h01, hx, hL1, hP1, hC1, he1, rfl⟩ := shuts hKat hj0 hce ha.toK _ n false gs gw (w.at d0) sl t q (Nat.le_refl _) h0 hgw hpc hold habove hP (hKat w d0 hK) hB hc he
    have helt : e < w.heap.size := (Array.getElem?_eq_some_iff.1 he1).1
    have hR : RE e w (((w.at d0).at d).setChan e 0 #[] true s r tm) := ⟨d, .inr ⟨s, r, tm, he1, rfl⟩⟩
    have hc1 : ∃ s1 r1 tm1, (((w.at d0).at d).setChan e 0 #[] true s r tm).heap[c]? = some (.chan 0 #[] false s1 r1 tm1) := by
      obtain ⟨s1, r1, tm1, h⟩ := hc
      refine ⟨s1, r1, tm1, ?_⟩
      simp only [World.setChan]
      rw [Array.getElem?_setIfInBounds_ne hce]
      exact h
    have he2 : ∃ s1 r1 tm1, (((w.at d0).at d).setChan e 0 #[] true s r tm).heap[e]? = some (.chan 0 #[] true s1 r1 tm1) := by
      refine ⟨s, r, tm, ?_⟩
      simp only [World.setChan]
      exact Array.getElem?_setIfInBounds_self_of_lt helt
    obtain ⟨N2, gs2, d2, sl2, t2, q2, hr2, hs2, h02, hL2, hP2⟩ := find_end hce ha (by simpa using hx) h01 hL1 hP1 hC1 hc1 he2
    exact ⟨N + N2, gs2, a, _, sl2, t2, q2, runNT_tr hr1 hr2, hs2.trans hs1, h02, hs _ (hR.trans (RE.at e _ d2)), hL2, hP2, rfl, rfl, rfl⟩
  | @step a w a' w' es hrun h1 hnx ih =>
    intro M
    induction M using Nat.strongRecOn with
    | ind M ihM =>
      intro n d0 gs gw sl t q hM h0 hgw hpc hold habove hpast hK hB hc he
      obtain ⟨s, r, tm, hc⟩ := hc
      obtain ⟨s', r', tm', he'⟩ := he
      have haw : ∀ g ∈ gs, awake g := by
        intro g hg
        obtain ⟨i, hi, rfl⟩ := Array.mem_iff_getElem.1 hg
        by_cases hz : i = 0
        · subst hz
          have : gs[0] = a := by simpa [Array.getElem?_eq_getElem hi] using h0
          rw [this]; exact awake_of (.inl hrun)
        · by_cases hij : i = j
          · subst hij
            have : gs[i] = gw := by simpa [Array.getElem?_eq_getElem hi] using hgw
            rw [this]
            exact awake_of (.inl hpc.running)
          · exact awake_of ((hold i _ (by omega) hij (Array.getElem?_eq_getElem hi)).status.elim .inl fun x => .inr (.inr x))
      obtain ⟨i, g, d, sl', hi, hg, hst⟩ := crowd_pick (P := P) (w := w.at d0) (sl := sl) haw ⟨0, a, h0, hrun⟩
      have hwat : (w.at d0).at d = w.at d := rfl
      rw [hwat] at hst
      have hlt : i < gs.size := (Array.getElem?_eq_some_iff.1 hi).1
      have hKd : K (w.at d) := hKat w d hK
      have hcd : (w.at d).heap[c]? = some (.chan 0 #[] false s r tm) := hc
      have hed : (w.at d).heap[e]? = some (.chan 0 #[] false s' r' tm') := he'
      have helt : e < w.heap.size := (Array.getElem?_eq_some_iff.1 he').1
      by_cases hz : i = 0
      · -- the holder's own step
        subst hz
        obtain rfl : g = a := by rw [h0] at hi; exact (Option.some.inj hi).symm
        obtain ⟨hgo, ⟨hgrow, hev, hstill, hkeep, hchan⟩, hchane, hkept⟩ := h1 _ (RE.at e w d)
        have hrunT := runT_crowd_go (P := P) (sl := sl') (i := 0) hi (show stepG P (0 == 0) g (w.at d) = _ from hgo)
        have hu : ∀ op ∈ MemOp.ofEvents 0 g.frame.fn g.frame.place (es (w.at d)), op.g = 0 := by intro op hop; obtain ⟨e, _, rfl⟩ := Go.Conc.mem_ofEvents hop; rfl
        have hdeaf : ∀ i, i ≠ 0 → Deaf (t ++ MemOp.ofEvents 0 g.frame.fn g.frame.place (es (w.at d))) i = Deaf t i := fun i hi => Deaf_other t (fun x => hi x.symm) _ hu
        have hsz : ((gs.map (woken P g (a' (w.at d)) (w' (w.at d)))).setIfInBounds 0 (a' (w.at d))).size = gs.size := by simp
        have hw : (w' (w.at d)).at (w' (w.at d)).drawn = w' (w.at d) := rfl
        obtain ⟨N, gs', a'', w'', sl'', t', q', hr, hs', h0', hS, hL', hP', hK'⟩ := ih _ (RE.at e w d) (sumTo gs.size q + n) n (w' (w.at d)).drawn ((gs.map (woken P g (a' (w.at d)) (w' (w.at d)))).setIfInBounds 0 (a' (w.at d))) gw sl' (t ++ MemOp.ofEvents 0 g.frame.fn g.frame.place (es (w.at d))) q
          (by rw [hsz]; exact Nat.le_refl _) (by simp [hlt])
          (by
            rw [Array.getElem?_setIfInBounds_ne (fun e => hj0 e.symm), Array.getElem?_map, hgw]
            simp [woken_run hpc.running]) hpc
          (fun i x hi0 hij hx => by
            rw [Array.getElem?_setIfInBounds_ne (by omega), Array.getElem?_map] at hx
            obtain ⟨y, hy, rfl⟩ := Option.map_eq_some_iff.1 hx
            have hq := hold i y hi0 hij hy
            rw [woken_quitsD hq, hdeaf i (by omega)]
            exact hq)
          (fun i hi => by
            rw [hsz] at hi
            rw [hdeaf i (by omega)]
            exact habove i hi)
          (PastH.appH (PastG.mono hpast hgrow) hu (by
              intro op hop b hb hs
              obtain ⟨e, he, rfl⟩ := Go.Conc.mem_ofEvents hop
              exact hstill e he b hb hs)
            (by
              rw [Deaf_own]
              exact deafBehind_still (fun e he => ⟨(evL_of (hev e he)).2.1, (evL_of (hev e he)).2.2.1⟩) _)
            (by intro op hop; obtain ⟨e, he, rfl⟩ := Go.Conc.mem_ofEvents hop; exact (evL_of (hev e he)).2.2.2))
          (hkeep hKd) (Nat.le_trans hB hgrow) ⟨s, r, tm, hchan.trans hcd⟩ ⟨s', r', tm', hchane.trans hed⟩
        rw [hw] at hr
        exact ⟨N + 1, gs', a'', w'', sl'', t', q', by simp only [runNT, hst, hrunT]; exact hr, hs'.trans hsz, h0', hS, hL', hP', Kept.trans hkept hK'⟩
      · have hi0 : (i == 0) = false := by simpa using hz
        by_cases hij : i = j
        · -- the worker's
          subst hij
          obtain rfl : g = gw := Option.some.inj (hi.symm.trans hgw)
          have hclose : CloseAt P K Still e B g → ∃ (N : Nat) (gs' : Array Goroutine) (a' : Goroutine) (w' : World) (sl' : Option (Nat × Nat)) (t' : Trace) (q' : Nat → Nat),
              runNT P N (crowd gs (w.at d0) sl) t = (.next (crowd gs' w' sl'), t') ∧ gs'.size = gs.size ∧ gs'[0]? = some (a'.finishComm P #[rcase c z0, rcase e z1] .select 1 z1 false) ∧ Stop a' w' ∧ Leavers P t' gs' q' ∧ Past NoShun w'.heap.size t' ∧ Kept w w' := by
            rintro ⟨_, hmay, g', n0, hr', hq', hstp⟩
            obtain ⟨d', es0, hrd, hgo⟩ := hstp (w.at d) hKd s' r' tm' hed
            have hww : (w.at d).at d' = w.at d' := rfl
            rw [hww] at hgo
            have hrunT := runT_crowd_go (P := P) (sl := sl') (i := i) hi (by rw [hi0]; exact hgo)
            have hsz : ((gs.map (woken P g g' ((w.at d').setChan e 0 #[] true s' r' tm'))).setIfInBounds i g').size = gs.size := by simp
            have he2 : ((w.at d').setChan e 0 #[] true s' r' tm').heap[e]? = some (.chan 0 #[] true s' r' tm') := by
              simp only [World.setChan]
              exact Array.getElem?_setIfInBounds_self_of_lt helt
            have hsize : ((w.at d').setChan e 0 #[] true s' r' tm').heap.size = w.heap.size := by simp [World.setChan]; rfl
            -- the trace
            have hspl : t ++ MemOp.ofEvents i g.frame.fn g.frame.place (es0.push ⟨.obj e, true, true⟩) = (t ++ MemOp.ofEvents i g.frame.fn g.frame.place es0) ++ #[({ g := i, fn := g.frame.fn, pos := g.frame.place, act := .close e } : MemOp)] := by
              rw [ofEvents_eq, ofEvents_eq, Array.map_push, Array.append_assoc, ← Array.push_eq_append]
              rfl
            have hu0 : ∀ op ∈ MemOp.ofEvents i g.frame.fn g.frame.place es0, op.g = i := by intro op hop; obtain ⟨x, _, rfl⟩ := Go.Conc.mem_ofEvents hop; rfl
            have hd0 : Deaf (t ++ MemOp.ofEvents i g.frame.fn g.frame.place es0) i = Deaf t i := by
              rw [Deaf_own]
              exact deafBehind_still (fun x hx => ⟨(hrd x hx).2.1, (hrd x hx).2.2.1⟩) _
            have hP0 := PastH.appRead (u := MemOp.ofEvents i g.frame.fn g.frame.place es0) hpast (.inr rfl) rfl hu0 (by
                intro op hop b hb
                obtain ⟨x, hx, rfl⟩ := Go.Conc.mem_ofEvents hop
                exact (hrd x hx).1 b hb) hd0
              (by
                intro op hop
                obtain ⟨x, hx, rfl⟩ := Go.Conc.mem_ofEvents hop
                exact MemAct.low_mono hB (hrd x hx).2.2.2)
            generalize ht1 : t ++ MemOp.ofEvents i g.frame.fn g.frame.place es0 = t1 at hspl hP0 hd0
            have hq1 : ∀ gg, ∀ op ∈ (#[({ g := i, fn := g.frame.fn, pos := g.frame.place, act := .close e } : MemOp)] : Trace), ∀ dd, deafStep gg dd op = dd := by
              intro gg op hop dd
              simp only [List.mem_toArray, List.mem_cons, List.not_mem_nil, or_false] at hop
              subst hop; rfl
            have hP1 := pastH_quiet hP0 (u := #[({ g := i, fn := g.frame.fn, pos := g.frame.place, act := .close e } : MemOp)])
              (by intro op hop; simp only [List.mem_toArray, List.mem_cons, List.not_mem_nil, or_false] at hop; subst hop; rfl) hq1
              (by intro op hop; simp only [List.mem_toArray, List.mem_cons, List.not_mem_nil, or_false] at hop; subst hop; exact helt)
            have hlast : (t1 ++ #[({ g := i, fn := g.frame.fn, pos := g.frame.place, act := .close e } : MemOp)])[t1.size]? = some { g := i, fn := g.frame.fn, pos := g.frame.place, act := .close e } := by simp
            have hdeaf : ∀ k, k ≠ i → Deaf (t1 ++ #[({ g := i, fn := g.frame.fn, pos := g.frame.place, act := .close e } : MemOp)]) k = Deaf t k := by
              intro k hk
              rw [Deaf_quiet (hq1 k), ← ht1]
              exact Deaf_other t (fun x => hk x.symm) _ hu0
            have hdi : Deaf (t1 ++ #[({ g := i, fn := g.frame.fn, pos := g.frame.place, act := .close e } : MemOp)]) i = 0 := by
              rw [Deaf_quiet (hq1 i), hd0]
              exact hpast.hears i (.inr rfl)
            have hR : RE e w ((w.at d').setChan e 0 #[] true s' r' tm') := ⟨d', .inr ⟨s', r', tm', he', rfl⟩⟩
            have hgoB : GoesW P true (DH K Still c e) Stop a ((w.at d').setChan e 0 #[] true s' r' tm') := ((GoesR.step a' w' es hrun h1 hnx).rely hR).to_W
            have hcB : ∃ s1 r1 tm1, ((w.at d').setChan e 0 #[] true s' r' tm').heap[c]? = some (.chan 0 #[] false s1 r1 tm1) := by
              refine ⟨s, r, tm, ?_⟩
              simp only [World.setChan]
              rw [Array.getElem?_setIfInBounds_ne hce]
              exact hcd
            obtain ⟨N1, gs1, a1, w1, sl1, t1', q1, hr1, hs1, h01, hS1, hL1, hP1', hC1, hc1, he1, hk1⟩ := walk_closed hj0 hgoB _ d' ((gs.map (woken P g g' ((w.at d').setChan e 0 #[] true s' r' tm'))).setIfInBounds i g') sl' (t1 ++ #[({ g := i, fn := g.frame.fn, pos := g.frame.place, act := .close e } : MemOp)]) (upd q i n0) (Nat.le_refl _)
              (by
                rw [Array.getElem?_setIfInBounds_ne hz, Array.getElem?_map, h0]
                simp [woken_run hrun])
              ⟨fun k y hk hy => by
                by_cases hki : i = k
                · subst hki
                  rw [Array.getElem?_setIfInBounds_self_of_lt (by simpa using hlt)] at hy
                  obtain rfl := Option.some.inj hy
                  rw [upd_same, hdi]
                  exact hq'
                · rw [Array.getElem?_setIfInBounds_ne hki, Array.getElem?_map] at hy
                  obtain ⟨y', hy', rfl⟩ := Option.map_eq_some_iff.1 hy
                  have hqj := hold k y' hk (Ne.symm hki) hy'
                  rw [woken_quitsD hqj, upd_ne q n0 (Ne.symm hki), hdeaf k (Ne.symm hki)]
                  exact hqj,
               fun k hk => by
                rw [hsz] at hk
                rw [hdeaf k (by omega)]
                exact habove k hk⟩
              (by rw [hsize]; exact PastG.fewer hP1 (fun g hg => .inl hg))
              (m := t1.size)
              ⟨⟨_, hlast, rfl, rfl⟩, by rw [deaf_old (Nat.le_refl _)]; exact hd0.trans (hpast.hears i (.inr rfl)), fun k x hx hgx => by
                obtain ⟨y, hy, hya⟩ := touch_of hx
                rcases getElem?_append_cases hy with ⟨hil, _⟩ | ⟨_, hyu⟩
                · exact hil
                · simp only [List.mem_toArray, List.mem_cons, List.not_mem_nil, or_false] at hyu
                  subst hyu
                  cases hya⟩ hcB ⟨_, _, _, he2⟩
            obtain ⟨N2, gs2, d2, sl2, t2, q2, hr2, hs2, h02, hL2, hP2⟩ := find_end (sl := sl1) hce (hsel a1 w1 hS1) (.inl rfl) h01 hL1 hP1' hC1 hc1 he1
            have hr0 : runNT P 1 (crowd gs (w.at d0) sl) t = (.next (crowd ((gs.map (woken P g g' ((w.at d').setChan e 0 #[] true s' r' tm'))).setIfInBounds i g') (((w.at d').setChan e 0 #[] true s' r' tm').at d') sl'), t1 ++ #[({ g := i, fn := g.frame.fn, pos := g.frame.place, act := .close e } : MemOp)]) := by
              simp only [runNT, hst, hrunT, hspl]; rfl
            exact ⟨(1 + N1) + N2, gs2, a1, _, sl2, t2, q2, runNT_tr (runNT_tr hr0 hr1) hr2, hs2.trans (hs1.trans hsz), h02, hSat _ _ _ hS1, hL2, hP2, hk1⟩
          cases n with
          | zero => exact hclose hpc
          | succ n =>
            rcases hpc with hp | ⟨_, g', hstp, hp'⟩
            · exact hclose hp
            · obtain ⟨d', es', hrd, hgo⟩ := hstp (w.at d) hKd
              have hrunT := runT_crowd_go (P := P) (sl := sl') (i := i) hi (by rw [hi0]; exact hgo)
              have hww : (w.at d).at d' = w.at d' := rfl
              rw [hww] at hrunT
              have hu : ∀ op ∈ MemOp.ofEvents i g.frame.fn g.frame.place es', op.g = i := by intro op hop; obtain ⟨e, _, rfl⟩ := Go.Conc.mem_ofEvents hop; rfl
              have hdeaf : ∀ k, k ≠ i → Deaf (t ++ MemOp.ofEvents i g.frame.fn g.frame.place es') k = Deaf t k := fun k hk => Deaf_other t (fun x => hk x.symm) _ hu
              have hsz : ((gs.map (woken P g g' (w.at d'))).setIfInBounds i g').size = gs.size := by simp
              obtain ⟨N, gs', a'', w'', sl'', t', q', hr, hs', h0', hS, hL', hP', hK'⟩ := ihM (M - 1) (by omega) n d' ((gs.map (woken P g g' (w.at d'))).setIfInBounds i g') g' sl' (t ++ MemOp.ofEvents i g.frame.fn g.frame.place es') q
                (by rw [hsz]; omega)
                (by
                  rw [Array.getElem?_setIfInBounds_ne hz, Array.getElem?_map, h0]
                  simp [woken_run hrun])
                (Array.getElem?_setIfInBounds_self_of_lt (by simpa using hlt)) hp'
                (fun k x hk0 hkj hx => by
                  rw [Array.getElem?_setIfInBounds_ne (Ne.symm hkj), Array.getElem?_map] at hx
                  obtain ⟨y, hy, rfl⟩ := Option.map_eq_some_iff.1 hx
                  have hq := hold k y hk0 hkj hy
                  rw [woken_quitsD hq, hdeaf k hkj]
                  exact hq)
                (fun k hk => by
                  rw [hsz] at hk
                  rw [hdeaf k (by omega)]
                  exact habove k hk)
                (PastH.appRead hpast (.inr rfl) rfl hu (by
                    intro op hop b hb
                    obtain ⟨e, he, rfl⟩ := Go.Conc.mem_ofEvents hop
                    exact (hrd e he).1 b hb)
                  (by
                    rw [Deaf_own]
                    exact deafBehind_still (fun e he => ⟨(hrd e he).2.1, (hrd e he).2.2.1⟩) _)
                  (by
                    intro op hop
                    obtain ⟨e, he, rfl⟩ := Go.Conc.mem_ofEvents hop
                    exact MemAct.low_mono hB (hrd e he).2.2.2))
                hK hB ⟨s, r, tm, hc⟩ ⟨s', r', tm', he'⟩
              exact ⟨N + 1, gs', a'', w'', sl'', t', q', by simp only [runNT, hst, hrunT]; exact hr, hs'.trans hsz, h0', hS, hL', hP', hK'⟩
        · -- a leaver's
          have hq := hold i g (by omega) hij hi
          cases hqi : q i with
          | zero => rw [hqi] at hq; rw [hq.1] at hg; cases hg
          | succ k =>
            rw [hqi] at hq
            rcases hq with ⟨hf, _⟩ | ⟨_, g', es', hm, hstp, hq'⟩
            · rw [hf] at hg; cases hg
            have hrunT := runT_crowd_go (P := P) (sl := sl') (i := i) hi (by rw [hi0]; exact hstp (w.at d))
            have hu : ∀ op ∈ MemOp.ofEvents i g.frame.fn g.frame.place es', op.g = i := by intro op hop; obtain ⟨e, _, rfl⟩ := Go.Conc.mem_ofEvents hop; rfl
            have hdeaf : ∀ k, k ≠ i → Deaf (t ++ MemOp.ofEvents i g.frame.fn g.frame.place es') k = Deaf t k := fun k hk => Deaf_other t (fun x => hk x.symm) _ hu
            have hsz : ((gs.map (woken P g g' (w.at d))).setIfInBounds i g').size = gs.size := by simp
            have hsum : sumTo gs.size (upd q i k) + (k + 1) = sumTo gs.size q + k := by
              have := sumTo_upd q k id hlt
              simpa [hqi] using this
            obtain ⟨N, gs', a'', w'', sl'', t', q', hr, hs', h0', hS, hL', hP', hK'⟩ := ihM (M - 1) (by omega) n d ((gs.map (woken P g g' (w.at d))).setIfInBounds i g') gw sl' (t ++ MemOp.ofEvents i g.frame.fn g.frame.place es') (upd q i k)
              (by rw [hsz]; omega)
              (by
                rw [Array.getElem?_setIfInBounds_ne hz, Array.getElem?_map, h0]
                simp [woken_run hrun])
              (by
                rw [Array.getElem?_setIfInBounds_ne hij, Array.getElem?_map, hgw]
                simp [woken_run hpc.running]) hpc
              (fun k' x hk0 hkj hx => by
                by_cases hji : i = k'
                · subst hji
                  rw [Array.getElem?_setIfInBounds_self_of_lt (by simpa using hlt)] at hx
                  obtain rfl := Option.some.inj hx
                  rw [upd_same, Deaf_own]
                  exact hq'
                · rw [Array.getElem?_setIfInBounds_ne hji, Array.getElem?_map] at hx
                  obtain ⟨y, hy, rfl⟩ := Option.map_eq_some_iff.1 hx
                  have hqj := hold k' y hk0 hkj hy
                  rw [woken_quitsD hqj, upd_ne q k (Ne.symm hji), hdeaf k' (Ne.symm hji)]
                  exact hqj)
              (fun k' hk => by
                rw [hsz] at hk
                rw [hdeaf k' (by omega)]
                exact habove k' hk)
              (PastH.appMute hpast hu (by intro op hop; obtain ⟨e, he, rfl⟩ := Go.Conc.mem_ofEvents hop; exact touch_mute (hm e he))
                (fun hmem => absurd hmem (by omega)) (by intro op hop; obtain ⟨e, he, rfl⟩ := Go.Conc.mem_ofEvents hop; exact low_mute (hm e he) _))
              hK hB ⟨s, r, tm, hc⟩ ⟨s', r', tm', he'⟩
            exact ⟨N + 1, gs', a'', w'', sl'', t', q', by simp only [runNT, hst, hrunT]; exact hr, hs'.trans hsz, h0', hS, hL', hP', hK'⟩
end
end Go.Proofs.Ytnahlemchajfdaa.Meta
namespace Go.Proofs.Ytnahlemchajfdaa.Meta
open Go Go.Conc
open Go.ConcN (sumTo)

section
variable (P : Program) (K : World → Prop) (Still : Loc → Prop) (c e : Nat) (z z0 z1 : Value) (B : Nat)
/-- What a pure worker sends, one value after the other; then it closes e. -/
def WGives : List Value → Goroutine → Prop
  | [] => fun g => ∃ n, PureC P K Still e B n g
  | v :: vs => fun g => ∃ n, PureN P K Still c v z (fun g0 => WGives vs (g0.finishComm P #[scase c v z] .send 0 undef false)) B n g
/-- How the holder takes them; at the end it finds e closed. -/
def HTakes (Stop : Goroutine → World → Prop) : List Value → Goroutine → World → Prop
  | [] => fun a w => GoesR P true (RE e) (DH K Still c e) (fun a' w' => AtSelA P c e z0 z1 a' ∧ GoesC P Stop (a'.finishComm P #[rcase c z0, rcase e z1] .select 1 z1 false) w') a w
  | v :: vs => fun a w => GoesR P true (RE e) (DH K Still c e) (fun a' w' => AtSelA P c e z0 z1 a' ∧
      ∀ d s r tm, w'.heap[c]? = some (.chan 0 #[] false s r tm) → HTakes Stop vs (a'.finishComm P #[rcase c z0, rcase e z1] .select 0 v true) ((w'.at d).setChan c 0 #[] false (s + 1) (r + 1) tm)) a w
end

section
variable {P : Program} {K : World → Prop} {Still : Loc → Prop} {c e : Nat} {z z0 z1 : Value} {B : Nat} {Stop : Goroutine → World → Prop}

theorem HTakes.rely {vs : List Value} {a : Goroutine} {w w1 : World} (h : HTakes P K Still c e z0 z1 Stop vs a w) (k : RE e w w1) : HTakes P K Still c e z0 z1 Stop vs a w1 := by
  cases vs with
  | nil => exact GoesR.rely h k
  | cons v vs => exact GoesR.rely h k

/-- ALL ROUNDS. -/
theorem rounds (hKat : ∀ w d, K w → K (w.at d)) (hKe : ∀ w, K w → ∃ s r tm, w.heap[e]? = some (.chan 0 #[] false s r tm))
    (hKc : ∀ w s r s' r' tm, K w → w.heap[c]? = some (.chan 0 #[] false s r tm) → K (w.setChan c 0 #[] false s' r' tm)) (hce : e ≠ c) {j : Nat} (hj0 : j ≠ 0) :
    ∀ (vs : List Value) (a gw : Goroutine) (w : World) (gs : Array Goroutine) (sl : Option (Nat × Nat)) (t : Trace) (q : Nat → Nat), HTakes P K Still c e z0 z1 Stop vs a w → WGives P K Still c e z B vs gw →
      gs[0]? = some a → gs[j]? = some gw → (∀ i g, 0 < i → i ≠ j → gs[i]? = some g → QuitsD P (q i) (Deaf t i) g) → (∀ i, gs.size ≤ i → Deaf t i = 0) →
      PastH Still (fun g => g = 0 ∨ g = j) (fun g => g = j) w.heap.size 0 t → K w → B ≤ w.heap.size → (∃ s r tm, w.heap[c]? = some (.chan 0 #[] false s r tm)) →
      ∃ (N : Nat) (gs' : Array Goroutine) (a' : Goroutine) (w' : World) (sl' : Option (Nat × Nat)) (t' : Trace) (q' : Nat → Nat),
        runNT P N (crowd gs w sl) t = (.next (crowd gs' w' sl'), t') ∧ Kept w w' ∧ gs'[0]? = some a' ∧ GoesC P Stop a' w' ∧ Leavers P t' gs' q' ∧ Past NoShun w'.heap.size t' := by
  intro vs
  induction vs with
  | nil =>
    intro a gw w gs sl t q hH hW h0 hgw hold habove hP hK hB hc
    obtain ⟨n, hpc⟩ := hW
    have hw : w.at w.drawn = w := rfl
    obtain ⟨N, gs', a', w', sl', t', q', hr, hsz, h0', hS, hL, hP', hk⟩ := walk_shut (fun a w d h => ⟨h.1, h.2.wt w.tape d⟩) hKat hj0 hce (fun a w h => h.1) hH (sumTo gs.size q + n) n w.drawn gs gw sl t q (Nat.le_refl _) h0 hgw hpc hold habove hP hK hB hc (hKe w hK)
    rw [hw] at hr
    exact ⟨N, gs', _, w', sl', t', q', hr, hk, h0', hS.2, hL, hP'⟩
  | cons v vs ih =>
    intro a gw w gs sl t q hH hW h0 hgw hold habove hP hK hB hc
    obtain ⟨n, hpn⟩ := hW
    have hw : w.at w.drawn = w := rfl
    have hI : PhInv P K Still c v z (fun g0 => WGives P K Still c e z B vs (g0.finishComm P #[scase c v z] .send 0 undef false)) B j (n + 1) gs (w.at w.drawn) t q :=
      ⟨⟨gw, hgw, .inl ⟨n, rfl, hpn⟩⟩, hold, habove, hP, hc, hK, hB⟩
    obtain ⟨N, gs1, a1, w1, sl1, t1, q1, m1, hr, hsz, h01, hS, hI1, hk1⟩ := walk_with hKat (fun _ _ _ h => h.1) (fun _ _ _ h => h.2.2) hj0 (GoesR.to_W hH) (sumTo gs.size q + (n + 1)) (n + 1) w.drawn gs sl t q (Nat.le_refl _) h0 hI
    rw [hw] at hr
    obtain ⟨N2, gs2, w2, sl2, t2, q2, g0, s, r, d, tm, hr2, hsz2, h02, hj2, hg0, hold2, habove2, hP2, hc2, rfl⟩ :=
      meets (X := fun g0 => WGives P K Still c e z B vs (g0.finishComm P #[scase c v z] .send 0 undef false)) hKat hj0 hce hS.1.toK _ m1 false gs1 w1 sl1 t1 q1 (Nat.le_refl _) (fun h => by cases h) h01 hI1 (hKe w1 hI1.keep)
    have hclt : c < w1.heap.size := (Array.getElem?_eq_some_iff.1 hc2).1
    have hsize : ((w1.at d).setChan c 0 #[] false (s + 1) (r + 1) tm).heap.size = w1.heap.size := by simp [World.setChan]; rfl
    have hK2 : K ((w1.at d).setChan c 0 #[] false (s + 1) (r + 1) tm) := hKc _ s r _ _ tm (hKat w1 d hI1.keep) hc2
    obtain ⟨N3, gs3, a3, w3, sl3, t3, q3, hr3, hk3, h03, hS3, hL3, hP3⟩ := ih _ _ _ gs2 sl2 t2 q2 (hS.2 d s r tm hc2) hg0.2.2 h02 hj2 hold2 habove2 hP2 hK2 (by rw [hsize]; exact hI1.low)
      ⟨s + 1, r + 1, tm, by simp only [World.setChan]; exact Array.getElem?_setIfInBounds_self_of_lt hclt⟩
    exact ⟨N + N2 + N3, gs3, a3, w3, sl3, t3, q3, runNT_tr (runNT_tr hr hr2) hr3, (hk1.trans ⟨rfl, rfl, rfl⟩).trans hk3, h03, hS3, hL3, hP3⟩

/-- THE WHOLE PHASE: from the go statement to behind the select that has found e closed. -/
theorem phase (hSt : ∀ l, Still l → l.isMemory = true) (hKat : ∀ w d, K w → K (w.at d)) (hKe : ∀ w, K w → ∃ s r tm, w.heap[e]? = some (.chan 0 #[] false s r tm))
    (hKc : ∀ w s r s' r' tm, K w → w.heap[c]? = some (.chan 0 #[] false s r tm) → K (w.setChan c 0 #[] false s' r' tm)) (hce : e ≠ c)
    {vs : List Value} {a a' child : Goroutine} {w : World} (ha : a.status = .running) (hgo : ∀ w, stepG P true a w = .spawn a' child w #[])
    (hH : ∀ τ, HTakes P K Still c e z0 z1 Stop vs a' (wt w τ 0)) (hW : WGives P K Still c e z B vs child) (hK : ∀ τ, K (wt w τ 0)) (hB : B ≤ w.heap.size) (hc : ∃ s r tm, w.heap[c]? = some (.chan 0 #[] false s r tm)) :
    GoesC P Stop a w := by
  refine .trans fun τ d gs sl t q h0 hL hP => ?_
  obtain ⟨N, gs1, d1, sl1, t1, q1, hr, hsz, h01, hch, hold, habove, hP1⟩ := starts (Still := Still) hSt ha hgo _ gs (wt w τ d) sl t q (Nat.le_refl _) h0 hL hP
  have hpos : gs.size ≠ 0 := by
    have := (Array.getElem?_eq_some_iff.1 h0).1
    omega
  obtain ⟨N2, gs2, a2, w2, sl2, t2, q2, hr2, hk2, h02, hS2, hL2, hP2⟩ := rounds hKat hKe hKc hce hpos vs a' child ((wt w τ d).at d1) gs1 sl1 t1 q1 ((hH τ).rely (RE.at e _ d1)) hW h01 hch hold habove hP1 (hKat (wt w τ 0) d1 (hK τ)) hB hc
  exact ⟨N + N2, gs2, a2, w2, sl2, t2, q2, runNT_tr hr hr2, Kept.trans ⟨rfl, rfl, rfl⟩ hk2, h02, hS2, hL2, hP2⟩
end
end Go.Proofs.Ytnahlemchajfdaa.Meta
