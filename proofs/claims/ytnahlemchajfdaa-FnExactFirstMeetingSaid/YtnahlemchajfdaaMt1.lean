/- Runs that hang on the answers drawn alone: plain trees. -/
import Derived.Conc.Beside
namespace Go.Proofs.Ytnahlemchajfdaa.Meta
open Go

def hOk : Halt → Prop
  | .panic _ | .stuck _ => True
  | .unsupported (.initOrder _) => False
  | .unsupported _ => True
  | _ => False
/-- No variable of a package that waits for its beginning. -/
def NP : Obj → Prop
  | .pending .. => False
  | _ => True
/-- It does nothing with the outside and says no word of the library's; what it comes to is Q. -/
def Pl {α : Type} (P : Program) (Q : α → Prop) : Sem α → Prop
  | .pure a => Q a
  | .load _ _ k => ∀ v, Pl P Q (k v)
  | .store _ _ _ k => Pl P Q k
  | .new o k => NP o ∧ ∀ r, Pl P Q (k r)
  | .shape _ k => ∀ s, Pl P Q (k s)
  | .freeze _ _ k => Pl P Q k
  | .frozen _ k => ∀ b, Pl P Q (k b)
  | .getObj _ k => ∀ o, Pl P Q (k o)
  | .setObj _ o k => NP o ∧ Pl P Q k
  | .choose _ k => ∀ n, Pl P Q (k n)
  | .sys _ _ => False
  | .program k => Pl P Q (k P)
  | .mark m k => m = .noRoom ∧ Pl P Q k
  | .halt h => hOk h

theorem Pl.bind {α β : Type} {P : Program} {Q : α → Prop} {R : β → Prop} {f : α → Sem β} : ∀ {s : Sem α}, Pl P Q s → (∀ a, Q a → Pl P R (f a)) → Pl P R (s.bind f) := by
  intro s
  induction s with
  | pure a => exact fun h hf => hf a h
  | load m a k ih => exact fun h hf v => ih v (h v) hf
  | store m a v k ih => exact fun h hf => ih h hf
  | new o k ih => exact fun h hf => ⟨h.1, fun r => ih r (h.2 r) hf⟩
  | shape r k ih => exact fun h hf s => ih s (h s) hf
  | freeze a n k ih => exact fun h hf => ih h hf
  | frozen a k ih => exact fun h hf b => ih b (h b) hf
  | getObj r k ih => exact fun h hf o => ih o (h o) hf
  | setObj r o k ih => exact fun h hf => ⟨h.1, ih h.2 hf⟩
  | choose q k ih => exact fun h hf n => ih n (h n) hf
  | sys c k ih => exact fun h _ => h.elim
  | program k ih => exact fun h hf => ih P h hf
  | mark m k ih => exact fun h hf => ⟨h.1, ih h.2 hf⟩
  | halt h => exact fun h _ => h
theorem Pl.mono {α : Type} {P : Program} {Q R : α → Prop} : ∀ {s : Sem α}, Pl P Q s → (∀ a, Q a → R a) → Pl P R s := by
  intro s
  induction s with
  | pure a => exact fun h hf => hf a h
  | load m a k ih => exact fun h hf v => ih v (h v) hf
  | store m a v k ih => exact fun h hf => ih h hf
  | new o k ih => exact fun h hf => ⟨h.1, fun r => ih r (h.2 r) hf⟩
  | shape r k ih => exact fun h hf s => ih s (h s) hf
  | freeze a n k ih => exact fun h hf => ih h hf
  | frozen a k ih => exact fun h hf b => ih b (h b) hf
  | getObj r k ih => exact fun h hf o => ih o (h o) hf
  | setObj r o k ih => exact fun h hf => ⟨h.1, ih h.2 hf⟩
  | choose q k ih => exact fun h hf n => ih n (h n) hf
  | sys c k ih => exact fun h _ => h.elim
  | program k ih => exact fun h hf => ih P h hf
  | mark m k ih => exact fun h hf => ⟨h.1, ih h.2 hf⟩
  | halt h => exact fun h _ => h

/-- The same world, with another tape. -/
def wt (w : World) (τ : Nat → Question → Nat) (d : Nat) : World := { w with tape := τ, drawn := d }
def rwt {α : Type} (r : Result α) (τ : Nat → Question → Nat) (d : Nat) : Result α :=
  match r with
  | .ok a w => .ok a (wt w τ d)
  | .halt h w => .halt h (wt w τ d)
def Result.world {α : Type} : Result α → World
  | .ok _ w => w
  | .halt _ w => w

theorem wt_cell (w : World) (τ : Nat → Question → Nat) (d : Nat) (a : Addr) : (wt w τ d).cell? a = w.cell? a := rfl
theorem wt_farLoad (P : Program) (w : World) (τ : Nat → Question → Nat) (d : Nat) (a : Addr) (b : Bool) : (wt w τ d).farLoad P a b = w.farLoad P a b := rfl
theorem wt_set (w : World) (τ : Nat → Question → Nat) (d : Nat) (a : Addr) (v : Value) : (wt w τ d).setCell a v = wt (w.setCell a v) τ d := by
  unfold World.setCell wt
  split <;> rfl
theorem wt_viewStore (P : Program) (w : World) (τ : Nat → Question → Nat) (d : Nat) (at_ : Addr) (u : TypeId) (k : Addr) (v : Value) (b : Bool) :
    (wt w τ d).viewStore P at_ u k v b = (w.viewStore P at_ u k v b).map (fun r => (wt r.1 τ d, r.2)) := by
  unfold World.viewStore
  have e : (wt w τ d).seen P at_ u k b = w.seen P at_ u k b := rfl
  rw [e]
  by_cases ht : tight P P.depth u = true
  · simp only [ht, Bool.not_true, Bool.false_eq_true, if_false]
    cases hs : w.seen P at_ u k b with
    | error x => rfl
    | ok r =>
      obtain ⟨c, el, fz, first, like, cells⟩ := r
      cases hb : v.bytes? with
      | none => rfl
      | some bytes =>
        by_cases hl : some bytes.length ≠ like.bytes?.map (·.length)
        · simp only [bind, Except.bind, hl, if_true, ne_eq, not_false_eq_true]
          rfl
        · simp only [bind, Except.bind, hl, if_false, ne_eq, not_true_eq_false]
          generalize (List.foldlM _ _ _ : Except String (Array Value)) = z
          cases z <;> rfl
  · have hf : tight P P.depth u = false := by simpa using ht
    simp only [hf, Bool.not_false, if_true]
    rfl
end Go.Proofs.Ytnahlemchajfdaa.Meta
namespace Go.Proofs.Ytnahlemchajfdaa.Meta
open Go

theorem wt_farStore (P : Program) (w : World) (τ : Nat → Question → Nat) (d : Nat) (a : Addr) (v : Value) (b : Bool) :
    (wt w τ d).farStore P a v b = (w.farStore P a v b).map (fun r => (wt r.1 τ d, r.2)) := by
  unfold World.farStore
  have e : (wt w τ d).heap = w.heap := rfl
  rw [e]
  cases w.heap[a.block]? with
  | none => rfl
  | some o =>
    cases o with
    | view at_ u =>
      simp only [wt_viewStore]
      cases w.viewStore P at_ u a v b <;> rfl
    | _ => rfl

/-- WHAT A RUN DOES HANGS ON THE ANSWERS THAT IT DRAWS ALONE. -/
theorem run_local {α : Type} {P : Program} : ∀ (s : Sem α) {Q : α → Prop}, Pl P Q s → ∀ (w : World) (es : Array Event),
    ∃ k, (Result.world (s.runT P w es).1).tape = w.tape ∧ (Result.world (s.runT P w es).1).drawn = w.drawn + k ∧
      ∀ τ d, (∀ i q, i < k → τ (d + i) q = w.tape (w.drawn + i) q) → s.runT P (wt w τ d) es = (rwt (s.runT P w es).1 τ (d + k), (s.runT P w es).2) := by
  intro s Q
  induction s with
  | pure a => exact fun _ w es => ⟨0, rfl, rfl, fun τ d _ => rfl⟩
  | load m a k ih =>
    intro h w es
    simp only [Sem.runT, wt_cell, wt_farLoad]
    cases w.cell? a with
    | some v => exact ih v (h v) w _
    | none =>
      cases w.farLoad P a (m == .atomic) with
      | ok r => exact ih r.1 (h r.1) w _
      | error x => exact ⟨0, rfl, rfl, fun τ d _ => rfl⟩
  | store m a v k ih =>
    intro h w es
    have gen : (∀ l, v ≠ .agg l) → (∀ l, v ≠ .tuple l) → ∃ k_1, (Result.world ((Sem.store m a v k).runT P w es).1).tape = w.tape ∧ (Result.world ((Sem.store m a v k).runT P w es).1).drawn = w.drawn + k_1 ∧
      ∀ τ d, (∀ i q, i < k_1 → τ (d + i) q = w.tape (w.drawn + i) q) → (Sem.store m a v k).runT P (wt w τ d) es = (rwt ((Sem.store m a v k).runT P w es).1 τ (d + k_1), ((Sem.store m a v k).runT P w es).2) := by
      intro h1 h2
      have hr : ∀ w es, (Sem.store m a v k).runT P w es = (match w.cell? a with
        | some _ =>
          if w.frozen? a then (.halt (.unsupported (.unsafePointer "a write to bytes that a string shares")) w, es)
          else k.runT P (w.setCell a v) (es.push ⟨.cell a, true, m == .atomic⟩)
        | none => match w.farStore P a v (m == .atomic) with
          | .ok (w, touched) => k.runT P w (es ++ touched.toArray.map (⟨.cell ·, true, m == .atomic⟩))
          | .error h => (.halt h w, es)) := by
        intro w es
        cases v <;> first | rfl | exact absurd rfl (h1 _) | exact absurd rfl (h2 _)
      simp only [hr, wt_cell, wt_farStore, wt_set]
      have hf : ∀ τ d, (wt w τ d).frozen? a = w.frozen? a := fun _ _ => rfl
      simp only [hf]
      cases w.cell? a with
      | some x =>
        by_cases hz : w.frozen? a = true
        · simp only [hz, if_true]; exact ⟨0, rfl, rfl, fun τ d _ => rfl⟩
        · simp only [hz, if_false]
          obtain ⟨n, a1, a2, a3⟩ := ih h (w.setCell a v) (es.push ⟨.cell a, true, m == .atomic⟩)
          exact ⟨n, a1, a2, a3⟩
      | none =>
        cases hfs : w.farStore P a v (m == .atomic) with
        | ok r =>
          obtain ⟨w2, l⟩ := r
          have h2' : w2.tape = w.tape ∧ w2.drawn = w.drawn := by
            have q := wt_farStore P w w.tape w.drawn a v (m == .atomic)
            have e : wt w w.tape w.drawn = w := rfl
            rw [e, hfs] at q
            simp only [Except.map, Except.ok.injEq, Prod.mk.injEq] at q
            constructor
            · rw [q.1]; rfl
            · rw [q.1]; rfl
          obtain ⟨n, a1, a2, a3⟩ := ih h w2 (es ++ l.toArray.map (⟨.cell ·, true, m == .atomic⟩))
          refine ⟨n, by simpa [h2'.1] using a1, by simpa [h2'.2] using a2, fun τ d ht => ?_⟩
          simp only [Except.map]
          exact a3 τ d (by rw [h2'.1, h2'.2]; exact ht)
        | error x => exact ⟨0, rfl, rfl, fun τ d _ => rfl⟩
    cases v with
    | agg l => exact ⟨0, rfl, rfl, fun τ d _ => rfl⟩
    | tuple l => exact ⟨0, rfl, rfl, fun τ d _ => rfl⟩
    | _ => exact gen (by intro l e; cases e) (by intro l e; cases e)
  | new o k ih => exact fun h w es => ih w.heap.size (h.2 _) { w with heap := w.heap.push o } es
  | shape r k ih => exact fun h w es => ih (w.shape? r) (h _) w es
  | freeze a n k ih =>
    intro h w es
    have e : ∀ τ d, (wt w τ d).freeze a n = wt (w.freeze a n) τ d := by
      intro τ d
      unfold World.freeze
      split <;> rfl
    have e1 : (w.freeze a n).tape = w.tape ∧ (w.freeze a n).drawn = w.drawn := by unfold World.freeze; split <;> exact ⟨rfl, rfl⟩
    obtain ⟨m, a1, a2, a3⟩ := ih h (w.freeze a n) es
    refine ⟨m, a1.trans e1.1, by rw [e1.2] at a2; exact a2, fun τ d ht => ?_⟩
    show k.runT P ((wt w τ d).freeze a n) es = _
    rw [e]
    exact a3 τ d (by rw [e1.1, e1.2]; exact ht)
  | frozen a k ih => exact fun h w es => ih (w.frozen? a) (h _) w es
  | getObj r k ih =>
    intro h w es
    have e : ∀ τ d, (wt w τ d).heap = w.heap := fun _ _ => rfl
    simp only [Sem.runT, e]
    cases w.heap[r]? with
    | none => exact ⟨0, rfl, rfl, fun τ d _ => rfl⟩
    | some o =>
      cases o with
      | cells => exact ⟨0, rfl, rfl, fun τ d _ => rfl⟩
      | _ => exact ih _ (h _) w _
  | setObj r o k ih =>
    intro h w es
    have e : ∀ τ d, (wt w τ d).heap = w.heap := fun _ _ => rfl
    simp only [Sem.runT, e]
    cases w.heap[r]? with
    | none => exact ⟨0, rfl, rfl, fun τ d _ => rfl⟩
    | some o' =>
      cases o' with
      | cells => exact ⟨0, rfl, rfl, fun τ d _ => rfl⟩
      | _ => exact ih h.2 { w with heap := w.heap.setIfInBounds r o } _
  | choose q k ih =>
    intro h w es
    by_cases hq : q.forced = true
    · simp only [Sem.runT, hq, if_true]
      exact ih 0 (h 0) w es
    · have hqf : q.forced = false := by simpa using hq
      simp only [Sem.runT, hqf, Bool.false_eq_true, if_false]
      obtain ⟨n, a1, a2, a3⟩ := ih (q.cut (w.tape w.drawn q)) (h _) { w with drawn := w.drawn + 1 } es
      refine ⟨n + 1, a1, by rw [a2]; show w.drawn + 1 + n = _; omega, fun τ d ht => ?_⟩
      have h0 : τ d q = w.tape w.drawn q := ht 0 q (by omega)
      have := a3 τ (d + 1) (fun i q hi => by
        have := ht (i + 1) q (by omega)
        rw [show d + (i + 1) = d + 1 + i by omega, show w.drawn + (i + 1) = w.drawn + 1 + i by omega] at this
        exact this)
      show (k (q.cut (τ d q))).runT P _ es = _
      rw [h0, show d + (n + 1) = d + 1 + n by omega]
      exact this
  | sys c k ih => exact fun h => h.elim
  | program k ih => exact fun h w es => ih P h w es
  | mark m k ih => exact fun h w es => ih h.2 w _
  | halt h => exact fun _ w es => ⟨0, rfl, rfl, fun τ d _ => rfl⟩

theorem runT_store {α : Type} (P : Program) (m : Mode) (a : Addr) (v : Value) (k : Sem α) (w : World) (es : Array Event) :
    (∃ h, (Sem.store m a v k).runT P w es = (.halt h w, es)) ∨
    (∃ u, w.cell? a = some u ∧ (Sem.store m a v k).runT P w es = k.runT P (w.setCell a v) (es.push ⟨.cell a, true, m == .atomic⟩)) ∨
    (∃ w2 l, w.farStore P a v (m == .atomic) = .ok (w2, l) ∧ (Sem.store m a v k).runT P w es = k.runT P w2 (es ++ l.toArray.map (⟨.cell ·, true, m == .atomic⟩))) := by
  have gen : (∀ l, v ≠ .agg l) → (∀ l, v ≠ .tuple l) → (Sem.store m a v k).runT P w es = (match w.cell? a with
        | some _ =>
          if w.frozen? a then (.halt (.unsupported (.unsafePointer "a write to bytes that a string shares")) w, es)
          else k.runT P (w.setCell a v) (es.push ⟨.cell a, true, m == .atomic⟩)
        | none => match w.farStore P a v (m == .atomic) with
          | .ok (w, touched) => k.runT P w (es ++ touched.toArray.map (⟨.cell ·, true, m == .atomic⟩))
          | .error h => (.halt h w, es)) := by
    intro h1 h2
    cases v <;> first | rfl | exact absurd rfl (h1 _) | exact absurd rfl (h2 _)
  have fin : (∀ l, v ≠ .agg l) → (∀ l, v ≠ .tuple l) → _ := fun h1 h2 => gen h1 h2
  have main : ∀ x, (Sem.store m a v k).runT P w es = x → x = (match w.cell? a with
        | some _ =>
          if w.frozen? a then (.halt (.unsupported (.unsafePointer "a write to bytes that a string shares")) w, es)
          else k.runT P (w.setCell a v) (es.push ⟨.cell a, true, m == .atomic⟩)
        | none => match w.farStore P a v (m == .atomic) with
          | .ok (w, touched) => k.runT P w (es ++ touched.toArray.map (⟨.cell ·, true, m == .atomic⟩))
          | .error h => (.halt h w, es)) → ((∃ h, x = (.halt h w, es)) ∨
    (∃ u, w.cell? a = some u ∧ x = k.runT P (w.setCell a v) (es.push ⟨.cell a, true, m == .atomic⟩)) ∨
    (∃ w2 l, w.farStore P a v (m == .atomic) = .ok (w2, l) ∧ x = k.runT P w2 (es ++ l.toArray.map (⟨.cell ·, true, m == .atomic⟩)))) := by
    intro x _ hx
    cases hc : w.cell? a with
    | some u =>
      rw [hc] at hx
      simp only at hx
      by_cases hz : w.frozen? a = true
      · rw [if_pos hz] at hx; exact .inl ⟨_, hx⟩
      · rw [if_neg hz] at hx; exact .inr (.inl ⟨u, rfl, hx⟩)
    | none =>
      rw [hc] at hx
      simp only at hx
      cases hf : w.farStore P a v (m == .atomic) with
      | error h => rw [hf] at hx; exact .inl ⟨_, hx⟩
      | ok r => obtain ⟨w2, l⟩ := r; rw [hf] at hx; exact .inr (.inr ⟨w2, l, rfl, hx⟩)
  cases v with
  | agg l => exact .inl ⟨_, rfl⟩
  | tuple l => exact .inl ⟨_, rfl⟩
  | _ => exact main _ rfl (gen (by intro l e; cases e) (by intro l e; cases e))

theorem run_post {α : Type} {P : Program} : ∀ (s : Sem α) {Q : α → Prop}, Pl P Q s → ∀ (w : World) (es : Array Event) (a : α) (w' : World), (s.runT P w es).1 = .ok a w' → Q a := by
  intro s Q
  induction s with
  | pure a => intro h w es b w' e; cases e; exact h
  | load m a k ih =>
    intro h w es b w' e
    simp only [Sem.runT] at e
    split at e
    · exact ih _ (h _) _ _ _ _ e
    · split at e
      · exact ih _ (h _) _ _ _ _ e
      · cases e
  | store m a v k ih =>
    intro h w es b w' e
    rcases runT_store P m a v k w es with ⟨x, hx⟩ | ⟨u, _, hx⟩ | ⟨w2, l, _, hx⟩
    · rw [hx] at e; cases e
    · rw [hx] at e; exact ih h _ _ _ _ e
    · rw [hx] at e; exact ih h _ _ _ _ e
  | new o k ih => exact fun h w es b w' e => ih _ (h.2 _) _ _ _ _ e
  | shape r k ih => exact fun h w es b w' e => ih _ (h _) _ _ _ _ e
  | freeze a n k ih => exact fun h w es b w' e => ih h _ _ _ _ e
  | frozen a k ih => exact fun h w es b w' e => ih _ (h _) _ _ _ _ e
  | getObj r k ih =>
    intro h w es b w' e
    simp only [Sem.runT] at e
    split at e
    · cases e
    · exact ih _ (h _) _ _ _ _ e
    · cases e
  | setObj r o k ih =>
    intro h w es b w' e
    simp only [Sem.runT] at e
    split at e
    · cases e
    · exact ih h.2 _ _ _ _ e
    · cases e
  | choose q k ih =>
    intro h w es b w' e
    simp only [Sem.runT] at e
    split at e
    · exact ih _ (h _) _ _ _ _ e
    · exact ih _ (h _) _ _ _ _ e
  | sys c k ih => exact fun h => h.elim
  | program k ih => exact fun h w es b w' e => ih _ h _ _ _ _ e
  | mark m k ih => exact fun h w es b w' e => ih h.2 _ _ _ _ e
  | halt h => intro _ w es b w' e; cases e

theorem seen_lt {P : Program} {w : World} {at_ : Addr} {u : TypeId} {k : Addr} {b : Bool} {r : Array Value × TypeId × (Nat × Nat) × Nat × Value × List (Nat × Nat × List UInt8)} (h : w.seen P at_ u k b = .ok r) : at_.block < w.heap.size := by
  rcases Nat.lt_or_ge at_.block w.heap.size with q | q
  · exact q
  · exfalso
    have hn : w.heap[at_.block]? = none := Array.getElem?_eq_none q
    unfold World.seen at h
    rw [hn] at h
    by_cases h1 : (k.spot.isSome || at_.spot.isSome) = true
    · simp only [h1, if_true] at h; cases h
    · have h1' : (k.spot.isSome || at_.spot.isSome) = false := by simpa using h1
      simp only [h1', Bool.false_eq_true, if_false] at h
      cases h2 : plainCell P P.depth u k.off with
      | none => rw [h2] at h; cases h
      | some like =>
        rw [h2] at h
        simp only at h
        cases h3 : like.bytes?.map (·.length) with
        | none => rw [h3] at h; cases h
        | some size =>
          rw [h3] at h
          simp only at h
          cases h4 : byteOfCell P P.depth u k.off with
          | none => rw [h4] at h; cases h
          | some x => rw [h4] at h; cases h
theorem farLoad_lt {P : Program} {w : World} {a : Addr} {b : Bool} {v : Value} {l : List Addr} (h : w.farLoad P a b = .ok (v, l)) : ∀ x ∈ l, x.block < w.heap.size := by
  unfold World.farLoad at h
  split at h
  · rename_i at_ u _
    cases hv : w.viewLoad P at_ u a b with
    | error x => rw [hv] at h; cases h
    | ok r =>
      rw [hv] at h
      simp only [Except.ok.injEq] at h
      subst h
      unfold World.viewLoad at hv
      cases hs : w.seen P at_ u a b with
      | error x => rw [hs] at hv; cases hv
      | ok q =>
        have hl := seen_lt hs
        obtain ⟨c, e, fz, first, like, cells⟩ := q
        rw [hs] at hv
        simp only [bind, Except.bind] at hv
        split at hv
        · simp only [pure, Except.pure, Except.ok.injEq, Prod.mk.injEq] at hv
          intro x hx
          rw [← hv.2] at hx
          obtain ⟨y, _, rfl⟩ := List.mem_map.1 hx
          exact hl
        · cases hv
  · cases h
end Go.Proofs.Ytnahlemchajfdaa.Meta
namespace Go.Proofs.Ytnahlemchajfdaa.Meta
open Go

theorem viewStore_ok {P : Program} {w w2 : World} {at_ : Addr} {u : TypeId} {k : Addr} {v : Value} {b : Bool} {l : List Addr} (h : w.viewStore P at_ u k v b = .ok (w2, l)) :
    (∀ x ∈ l, x.block < w.heap.size) ∧ w2.heap.size = w.heap.size ∧ w2.os = w.os ∧ w2.output = w.output ∧ ∃ i c e z, w2.heap = w.heap.setIfInBounds i (.cells c e z) := by
  unfold World.viewStore at h
  by_cases ht : tight P P.depth u = true
  · simp only [ht, Bool.not_true, Bool.false_eq_true, if_false] at h
    cases hs : w.seen P at_ u k b with
    | error x => rw [hs] at h; cases h
    | ok r =>
      have hl := seen_lt hs
      obtain ⟨c, el, fz, first, like, cells⟩ := r
      rw [hs] at h
      cases hb : v.bytes? with
      | none => rw [hb] at h; cases h
      | some bytes =>
        rw [hb] at h
        by_cases hlen : some bytes.length ≠ like.bytes?.map (·.length)
        · simp only [bind, Except.bind, hlen, if_true, ne_eq, not_false_eq_true] at h
          cases h
        · simp only [bind, Except.bind, hlen, if_false, ne_eq, not_true_eq_false] at h
          generalize (List.foldlM _ _ _ : Except String (Array Value)) = z at h
          cases z with
          | error x => cases h
          | ok c2 =>
            simp only [pure, Except.pure, Except.ok.injEq, Prod.mk.injEq] at h
            obtain ⟨h1, h2⟩ := h
            refine ⟨fun x hx => ?_, ?_, ?_, ?_, ?_⟩
            · rw [← h2] at hx
              obtain ⟨y, _, rfl⟩ := List.mem_map.1 hx
              exact hl
            · rw [← h1]; simp
            · rw [← h1]
            · rw [← h1]
            · rw [← h1]; exact ⟨_, _, _, _, rfl⟩
  · have hf : tight P P.depth u = false := by simpa using ht
    simp only [hf, Bool.not_false, if_true] at h
    cases h
theorem farStore_ok {P : Program} {w w2 : World} {a : Addr} {v : Value} {b : Bool} {l : List Addr} (h : w.farStore P a v b = .ok (w2, l)) :
    (∀ x ∈ l, x.block < w.heap.size) ∧ w2.heap.size = w.heap.size ∧ w2.os = w.os ∧ w2.output = w.output ∧ ∃ i c e z, w2.heap = w.heap.setIfInBounds i (.cells c e z) := by
  unfold World.farStore at h
  split at h
  · rename_i at_ u _
    cases hv : w.viewStore P at_ u a v b with
    | error x => rw [hv] at h; cases h
    | ok r =>
      rw [hv] at h
      simp only [Except.ok.injEq] at h
      subst h
      exact viewStore_ok hv
  · cases h

/-- What such a run may list. -/
def EvOk (n : Nat) (e : Event) : Prop :=
  match e.loc with
  | .cell a => a.block < n
  | .obj r => r < n
  | .mark m => m = .noRoom
  | _ => False
theorem EvOk.mono {n m : Nat} {e : Event} (h : EvOk n e) (hn : n ≤ m) : EvOk m e := by
  obtain ⟨loc, wr, sy⟩ := e
  cases loc with
  | cell a => exact Nat.lt_of_lt_of_le h hn
  | obj r => exact Nat.lt_of_lt_of_le h hn
  | mark m => exact h
  | _ => exact h.elim

theorem run_events {α : Type} {P : Program} : ∀ (s : Sem α) {Q : α → Prop}, Pl P Q s → ∀ (w : World) (es : Array Event),
    w.heap.size ≤ (Result.world (s.runT P w es).1).heap.size ∧ (Result.world (s.runT P w es).1).os = w.os ∧ (Result.world (s.runT P w es).1).output = w.output ∧
      ∀ e ∈ (s.runT P w es).2, e ∈ es ∨ EvOk (Result.world (s.runT P w es).1).heap.size e := by
  intro s Q
  have push : ∀ {k : Sem α} {w w1 : World} {es add : Array Event}, w.heap.size ≤ w1.heap.size → w1.os = w.os → w1.output = w.output → (∀ e ∈ add, EvOk w1.heap.size e) →
      (w1.heap.size ≤ (Result.world (k.runT P w1 (es ++ add)).1).heap.size ∧ (Result.world (k.runT P w1 (es ++ add)).1).os = w1.os ∧ (Result.world (k.runT P w1 (es ++ add)).1).output = w1.output ∧
        ∀ e ∈ (k.runT P w1 (es ++ add)).2, e ∈ es ++ add ∨ EvOk (Result.world (k.runT P w1 (es ++ add)).1).heap.size e) →
      (w.heap.size ≤ (Result.world (k.runT P w1 (es ++ add)).1).heap.size ∧ (Result.world (k.runT P w1 (es ++ add)).1).os = w.os ∧ (Result.world (k.runT P w1 (es ++ add)).1).output = w.output ∧
        ∀ e ∈ (k.runT P w1 (es ++ add)).2, e ∈ es ∨ EvOk (Result.world (k.runT P w1 (es ++ add)).1).heap.size e) := by
    intro k w w1 es add h1 h2 h3 h4 ⟨a, b, c, d⟩
    refine ⟨Nat.le_trans h1 a, b.trans h2, c.trans h3, fun e he => ?_⟩
    rcases d e he with h | h
    · rcases Array.mem_append.1 h with h | h
      · exact .inl h
      · exact .inr ((h4 e h).mono a)
    · exact .inr h
  induction s with
  | pure a => exact fun _ w es => ⟨Nat.le_refl _, rfl, rfl, fun e he => .inl he⟩
  | load m a k ih =>
    intro h w es
    simp only [Sem.runT]
    cases hc : w.cell? a with
    | some v =>
      simp only [Array.push_eq_append]
      exact push (Nat.le_refl _) rfl rfl (by
        intro e he
        simp at he
        subst he
        exact World.block_lt_of_cell? _ _ hc) (ih v (h v) w _)
    | none =>
      cases hf : w.farLoad P a (m == .atomic) with
      | ok r =>
        obtain ⟨v, l⟩ := r
        simp only
        exact push (Nat.le_refl _) rfl rfl (by
          intro e he
          obtain ⟨x, hx, rfl⟩ := Array.mem_map.1 he
          exact farLoad_lt hf x (by simpa using hx)) (ih v (h v) w _)
      | error x => exact ⟨Nat.le_refl _, rfl, rfl, fun e he => .inl he⟩
  | store m a v k ih =>
    intro h w es
    rcases runT_store P m a v k w es with ⟨x, hx⟩ | ⟨u, hu, hx⟩ | ⟨w2, l, hf, hx⟩
    · rw [hx]; exact ⟨Nat.le_refl _, rfl, rfl, fun e he => .inl he⟩
    · rw [hx, Array.push_eq_append]
      have hs : (w.setCell a v).heap.size = w.heap.size := by unfold World.setCell; simp
      exact push (by omega) rfl rfl (by
        intro e he
        simp at he
        subst he
        show a.block < _
        rw [hs]; exact World.block_lt_of_cell? _ _ hu) (ih h _ _)
    · rw [hx]
      obtain ⟨q1, q2, q3, q4, _⟩ := farStore_ok hf
      exact push (by omega) q3 q4 (by
        intro e he
        obtain ⟨x, hx, rfl⟩ := Array.mem_map.1 he
        show x.block < _
        rw [q2]; exact q1 x (by simpa using hx)) (ih h _ _)
  | new o k ih =>
    intro h w es
    have := ih w.heap.size (h.2 _) { w with heap := w.heap.push o } es
    refine ⟨?_, this.2.1, this.2.2.1, this.2.2.2⟩
    have h1 := this.1
    simp only [Array.size_push] at h1
    exact Nat.le_trans (Nat.le_succ _) h1
  | shape r k ih => exact fun h w es => ih (w.shape? r) (h _) w es
  | freeze a n k ih =>
    intro h w es
    have e1 : (w.freeze a n).heap.size = w.heap.size ∧ (w.freeze a n).os = w.os ∧ (w.freeze a n).output = w.output := by unfold World.freeze; split <;> simp
    have := ih h (w.freeze a n) es
    rw [e1.1, e1.2.1, e1.2.2] at this
    exact this
  | frozen a k ih => exact fun h w es => ih (w.frozen? a) (h _) w es
  | getObj r k ih =>
    intro h w es
    simp only [Sem.runT]
    cases hr : w.heap[r]? with
    | none => exact ⟨Nat.le_refl _, rfl, rfl, fun e he => .inl he⟩
    | some o =>
      have hlt : r < w.heap.size := (Array.getElem?_eq_some_iff.1 hr).1
      cases o with
      | cells => exact ⟨Nat.le_refl _, rfl, rfl, fun e he => .inl he⟩
      | _ =>
        simp only [Array.push_eq_append]
        exact push (Nat.le_refl _) rfl rfl (by
          intro e he
          simp at he
          subst he
          exact hlt) (ih _ (h _) w _)
  | setObj r o k ih =>
    intro h w es
    simp only [Sem.runT]
    cases hr : w.heap[r]? with
    | none => exact ⟨Nat.le_refl _, rfl, rfl, fun e he => .inl he⟩
    | some o' =>
      have hlt : r < w.heap.size := (Array.getElem?_eq_some_iff.1 hr).1
      cases o' with
      | cells => exact ⟨Nat.le_refl _, rfl, rfl, fun e he => .inl he⟩
      | _ =>
        simp only [Array.push_eq_append]
        exact push (by simp) rfl rfl (by
          intro e he
          simp at he
          subst he
          show r < _
          simpa using hlt) (ih h.2 _ _)
  | choose q k ih =>
    intro h w es
    simp only [Sem.runT]
    split
    · exact ih 0 (h 0) w es
    · exact ih _ (h _) { w with drawn := w.drawn + 1 } es
  | sys c k ih => exact fun h => h.elim
  | program k ih => exact fun h w es => ih P h w es
  | mark m k ih =>
    intro h w es
    simp only [Sem.runT, Array.push_eq_append]
    exact push (Nat.le_refl _) rfl rfl (by
      intro e he
      simp at he
      subst he
      exact h.1) (ih h.2 w _)
  | halt h => exact fun _ w es => ⟨Nat.le_refl _, rfl, rfl, fun e he => .inl he⟩
end Go.Proofs.Ytnahlemchajfdaa.Meta
namespace Go.Proofs.Ytnahlemchajfdaa.Meta
open Go

/-- How many variables the program's packages have, at most. -/
def gmax : Nat := 0
/-- How a plain run may stop. -/
def hOkR : Halt → Prop
  | .panic _ | .stuck _ => True
  | .unsupported (.initOrder g) => gmax ≤ g
  | .unsupported _ => True
  | _ => False
theorem hOkR_of {x : Halt} (h : hOk x) : hOkR x := by
  cases x with
  | unsupported u => cases u <;> first | exact (show False from h).elim | exact trivial
  | panic v => exact trivial
  | stuck y => exact trivial
  | _ => exact (show False from h).elim
/-- No variable of a package waits for its beginning. -/
def NPW (w : World) : Prop := ∀ (r : Nat) (o : Obj), r < gmax → w.heap[r]? = some o → NP o
theorem NPW.set {w : World} (h : NPW w) {i : Nat} {o : Obj} (ho : NP o) {w1 : World} (e : w1.heap = w.heap.setIfInBounds i o) : NPW w1 := by
  intro r x hg hx
  rw [e] at hx
  by_cases hir : i = r
  · subst hir
    by_cases hlt : i < w.heap.size
    · rw [Array.getElem?_setIfInBounds_self_of_lt hlt] at hx
      cases hx; exact ho
    · rw [Array.getElem?_eq_none (by simpa using hlt)] at hx; cases hx
  · rw [Array.getElem?_setIfInBounds_ne hir] at hx
    exact h r x hg hx
theorem NPW.push {w : World} (h : NPW w) {o : Obj} (ho : NP o) {w1 : World} (e : w1.heap = w.heap.push o) : NPW w1 := by
  intro r x hg hx
  rw [e, Array.getElem?_push] at hx
  split at hx
  · cases hx; exact ho
  · exact h r x hg hx
theorem NPW.eq {w : World} (h : NPW w) {w1 : World} (e : w1.heap = w.heap) : NPW w1 := by intro r x hg hx; rw [e] at hx; exact h r x hg hx
theorem NPW.mod {w : World} (h : NPW w) {i : Nat} {f : Obj → Obj} (hf : ∀ o, NP o → NP (f o)) {w1 : World} (e : w1.heap = w.heap.modify i f) : NPW w1 := by
  intro r x hg hx
  rw [e, Array.getElem?_modify] at hx
  split at hx
  · obtain ⟨y, hy, rfl⟩ := Option.map_eq_some_iff.1 hx
    exact hf y (h r y hg hy)
  · exact h r x hg hx
theorem NPW.mod' {w : World} (h : NPW w) (i : Nat) (f : Obj → Obj) (hf : ∀ o, NP o → NP (f o)) : NPW { w with heap := w.heap.modify i f } := h.mod hf rfl
theorem setCell_np {w : World} (h : NPW w) (a : Addr) (v : Value) : NPW (w.setCell a v) := by
  unfold World.setCell
  refine NPW.mod' h _ _ ?_
  intro o ho
  cases o <;> first | exact ho | trivial
theorem freeze_np {w : World} (h : NPW w) (a : Addr) (n : Nat) : NPW (w.freeze a n) := by
  unfold World.freeze
  split
  · exact h
  · refine NPW.mod' h _ _ ?_
    intro o ho
    cases o <;> first | exact ho | trivial
theorem noCell_ok {w : World} (h : NPW w) (a : Addr) (s : String) : hOkR (w.noCell a s) := by
  unfold World.noCell
  split
  · rename_i hp
    rcases Nat.lt_or_ge a.block gmax with hg | hg
    · exact (h _ _ hg hp).elim
    · exact hg
  · exact trivial
  · exact trivial
theorem farLoad_err {P : Program} {w : World} (h : NPW w) {a : Addr} {b : Bool} {x : Halt} (e : w.farLoad P a b = .error x) : hOkR x := by
  unfold World.farLoad at e
  split at e
  · split at e
    · cases e
    · cases e; exact trivial
  · cases e; exact noCell_ok h _ _
theorem farStore_err {P : Program} {w : World} (h : NPW w) {a : Addr} {v : Value} {b : Bool} {x : Halt} (e : w.farStore P a v b = .error x) : hOkR x := by
  unfold World.farStore at e
  split at e
  · split at e
    · cases e
    · cases e; exact trivial
  · cases e; exact noCell_ok h _ _

/-- Such a run leaves none waiting, and stops by a panic or in want of an entry alone. -/
theorem run_np {α : Type} {P : Program} : ∀ (s : Sem α) {Q : α → Prop}, Pl P Q s → ∀ (w : World) (es : Array Event), NPW w →
    NPW (Result.world (s.runT P w es).1) ∧ ∀ x w', (s.runT P w es).1 = .halt x w' → hOkR x := by
  intro s Q
  induction s with
  | pure a => exact fun _ w es h => ⟨h, fun x w' e => by cases e⟩
  | load m a k ih =>
    intro h w es hw
    simp only [Sem.runT]
    cases w.cell? a with
    | some v => exact ih v (h v) w _ hw
    | none =>
      cases hf : w.farLoad P a (m == .atomic) with
      | ok r => exact ih r.1 (h r.1) w _ hw
      | error x => exact ⟨hw, fun y w' e => by cases e; exact farLoad_err hw hf⟩
  | store m a v k ih =>
    intro h w es hw
    have gen : (∀ l, v ≠ .agg l) → (∀ l, v ≠ .tuple l) → NPW (Result.world ((Sem.store m a v k).runT P w es).1) ∧ ∀ x w', ((Sem.store m a v k).runT P w es).1 = .halt x w' → hOkR x := by
      intro h1 h2
      have hr : (Sem.store m a v k).runT P w es = (match w.cell? a with
        | some _ =>
          if w.frozen? a then (.halt (.unsupported (.unsafePointer "a write to bytes that a string shares")) w, es)
          else k.runT P (w.setCell a v) (es.push ⟨.cell a, true, m == .atomic⟩)
        | none => match w.farStore P a v (m == .atomic) with
          | .ok (w, touched) => k.runT P w (es ++ touched.toArray.map (⟨.cell ·, true, m == .atomic⟩))
          | .error h => (.halt h w, es)) := by
        cases v <;> first | rfl | exact absurd rfl (h1 _) | exact absurd rfl (h2 _)
      rw [hr]
      cases w.cell? a with
      | some x =>
        by_cases hz : w.frozen? a = true
        · simp only [hz, if_true]; exact ⟨hw, fun y w' e => by cases e; exact trivial⟩
        · simp only [hz, if_false]
          exact ih h (w.setCell a v) _ (setCell_np hw a v)
      | none =>
        cases hf : w.farStore P a v (m == .atomic) with
        | ok r =>
          obtain ⟨w2, l⟩ := r
          obtain ⟨_, _, _, _, i, c, e, z, hh⟩ := farStore_ok hf
          exact ih h w2 _ (hw.set (o := .cells c e z) trivial hh)
        | error x => exact ⟨hw, fun y w' e => by cases e; exact farStore_err hw hf⟩
    cases v with
    | agg l => exact ⟨hw, fun y w' e => by cases e; exact trivial⟩
    | tuple l => exact ⟨hw, fun y w' e => by cases e; exact trivial⟩
    | _ => exact gen (by intro l e; cases e) (by intro l e; cases e)
  | new o k ih => exact fun h w es hw => ih _ (h.2 _) _ es (hw.push h.1 rfl)
  | shape r k ih => exact fun h w es hw => ih _ (h _) w es hw
  | freeze a n k ih => exact fun h w es hw => ih h _ es (freeze_np hw a n)
  | frozen a k ih => exact fun h w es hw => ih _ (h _) w es hw
  | getObj r k ih =>
    intro h w es hw
    simp only [Sem.runT]
    split
    · exact ⟨hw, fun y w' e => by cases e; exact trivial⟩
    · exact ih _ (h _) w _ hw
    · exact ⟨hw, fun y w' e => by cases e; exact trivial⟩
  | setObj r o k ih =>
    intro h w es hw
    simp only [Sem.runT]
    split
    · exact ⟨hw, fun y w' e => by cases e; exact trivial⟩
    · exact ih h.2 _ _ (hw.set h.1 rfl)
    · exact ⟨hw, fun y w' e => by cases e; exact trivial⟩
  | choose q k ih =>
    intro h w es hw
    simp only [Sem.runT]
    split
    · exact ih _ (h _) w es hw
    · exact ih _ (h _) _ es (hw.eq rfl)
  | sys c k ih => exact fun h => h.elim
  | program k ih => exact fun h w es hw => ih P h w es hw
  | mark m k ih => exact fun h w es hw => ih h.2 w _ hw
  | halt x => exact fun h w es hw => ⟨hw, fun y w' e => by cases e; exact hOkR_of h⟩
end Go.Proofs.Ytnahlemchajfdaa.Meta
