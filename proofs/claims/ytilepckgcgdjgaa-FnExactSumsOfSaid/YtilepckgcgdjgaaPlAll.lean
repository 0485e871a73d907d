/- All vessels that are reached: the model's search. -/
import Derived.Test.YtilepckgcgdjgaaPlace
import Derived.Test.YtilepckgcgdjgaaOnS
import Derived.Test.YtilepckgcgdjgaaMarkV
import Derived.Test.YtilepckgcgdjgaaImpl2
import Derived.Deep.AppendLies
import Derived.Deep.RegionLaw
namespace Go.Proofs.Ytilepckgcgdjgaa
open Go.RowKit

theorem Try.infoVes : (Try.prog.info? 28).map (fun i => (i.zero, i.size, i.bytes)) = some (some (.agg #[.slice none 0 0, .slice none 0 0]), 2, 48) := by kernel_rfl

/-- Pairs of values, one behind the other. -/
def flatPQ (P Q : Nat → Value) : Nat → List Value
  | 0 => []
  | k + 1 => flatPQ P Q k ++ [P k, Q k]
theorem flatPQ_length (P Q : Nat → Value) (k : Nat) : (flatPQ P Q k).length = k * 2 := by
  induction k with
  | zero => rfl
  | succ k ih => simp [flatPQ, ih]; omega
theorem flatPQ_congr {P Q P' Q' : Nat → Value} {n : Nat} (h : ∀ j, j < n → P' j = P j ∧ Q' j = Q j) : flatPQ P' Q' n = flatPQ P Q n := by
  induction n with
  | zero => rfl
  | succ n ih => rw [flatPQ, flatPQ, ih fun j hj => h j (by omega), (h n (by omega)).1, (h n (by omega)).2]
theorem flatPQ_get (P Q : Nat → Value) {n j : Nat} (hj : j < n) : (flatPQ P Q n)[j * 2]? = some (P j) ∧ (flatPQ P Q n)[j * 2 + 1]? = some (Q j) := by
  induction n with
  | zero => omega
  | succ n ih =>
    have hl := flatPQ_length P Q n
    by_cases h : j < n
    · rw [flatPQ, List.getElem?_append_left (by omega), List.getElem?_append_left (by omega)]
      exact ih h
    · obtain rfl : j = n := by omega
      rw [flatPQ, List.getElem?_append_right (by omega), List.getElem?_append_right (by omega)]
      have e : j * 2 - (flatPQ P Q j).length = 0 := by omega
      have e1 : j * 2 + 1 - (flatPQ P Q j).length = 1 := by omega
      rw [e, e1]
      exact ⟨rfl, rfl⟩

def frL (L : List Node) : List Value := L.map fun x => .int .i64 x.fr
def mvL (L : List Node) : List Value := flat (L.map (·.mv))
def farL (L : List Node) : List Value := L.map fun x => .int .i64 (x.far : Int)
def ordL (O : List Nat) : List Value := O.map fun (k : Nat) => Value.int .i64 (k : Int)
def r0 (v : Value) (N : Nat) (P Q : Nat → Value) : BRow := ⟨0, 28, 2, v, N, flatPQ P Q N⟩
def r1 (v : Value) (L : List Node) : BRow := ⟨1, 3, 1, v, L.length, frL L⟩
def r2 (v : Value) (L : List Node) : BRow := ⟨2, 77, 2, v, L.length, mvL L⟩
def r3 (v : Value) (L : List Node) : BRow := ⟨3, 3, 1, v, L.length, farL L⟩
def r4 (v : Value) (O : List Nat) : BRow := ⟨4, 3, 1, v, O.length, ordL O⟩

/-- A block that no growing row lies in. -/
def Far (R : Nat) (vs : List Value) (b : Nat) : Prop := b ≠ R ∧ ∀ v ∈ vs, v.ownBlock ≠ some b
def VesAt (w : World) (R : Nat) (vs : List Value) (S H : List Int) (p q : Value) : Prop :=
  ∃ sa n sc sb m sd, p = .slice sa n sc ∧ q = .slice sb m sd ∧ Ints w sa n sc S ∧ Ints w sb m sd H ∧ (∀ b, blkOf sa = some b → Far R vs b) ∧ (∀ b, blkOf sb = some b → Far R vs b)
theorem Ints.turned {w w' : World} {ao : Option Addr} {n cap : Nat} {l : List Int} (h : Ints w ao n cap l) (k : ∀ b, n ≠ 0 → blkOf ao = some b → b < w.heap.size → w'.heap[b]? = w.heap[b]?) : Ints w' ao n cap l := by
  obtain ⟨h1, h2, h3, h4, h5⟩ := h
  refine ⟨h1, h2, h3, fun j hj => ?_, h5⟩
  obtain ⟨b, o, e, hc⟩ := h4 j hj
  refine ⟨b, o, e, ?_⟩
  exact (World.cell?_of_block (a := ⟨b, o + j, none⟩) (k b (by omega) (by rw [e]; rfl) (World.block_lt_of_cell? w _ hc))).trans hc
theorem Ints.blk {w : World} {ao : Option Addr} {n cap : Nat} {l : List Int} (h : Ints w ao n cap l) (hn : n ≠ 0) {b : Nat} (hb : blkOf ao = some b) : b < w.heap.size := by
  obtain ⟨b', o, e, hc, hlt⟩ := h.at (j := 0) (by omega)
  subst e
  simp [blkOf] at hb
  omega
theorem VesAt.new {w w' : World} {R : Nat} {vs : List Value} {S H : List Int} {p q : Value} (h : VesAt w R vs S H p q) (k : New w w') : VesAt w' R vs S H p q := by
  obtain ⟨sa, n, sc, sb, m, sd, e1, e2, i1, i2, f1, f2⟩ := h
  exact ⟨sa, n, sc, sb, m, sd, e1, e2, i1.new k, i2.new k, f1, f2⟩
theorem VesAt.grow {w w' : World} {R g : Nat} {pre post : List Value} {v v' u : Value} {o : Nat} {S H : List Int} {p q : Value} (h : VesAt w R (pre ++ v :: post) S H p q) (hS : S.length ≠ 0) (hH : H.length ≠ 0) (hg : w.grownBy w' v.ownBlock) (hv : v'.ownBlock = some g) (hb : v.ownBlock = some g ∨ g = w.heap.size) :
    VesAt (w'.setCell ⟨R, o, none⟩ u) R (pre ++ v' :: post) S H p q := by
  obtain ⟨sa, n, sc, sb, m, sd, e1, e2, i1, i2, f1, f2⟩ := h
  have key : ∀ b, Far R (pre ++ v :: post) b → b < w.heap.size → (w'.setCell ⟨R, o, none⟩ u).heap[b]? = w.heap[b]? := fun b hf hlt => by
    rw [Below.heap_setCell _ _ _ _ (fun e => hf.1 (by simpa using e))]
    exact hg.block b hlt (fun e => hf.2 v (by simp) e.symm)
  have far : ∀ b, Far R (pre ++ v :: post) b → b < w.heap.size → Far R (pre ++ v' :: post) b := fun b hf hlt => by
    refine ⟨hf.1, fun s hs => ?_⟩
    rcases List.mem_append.1 hs with h | h
    · exact hf.2 s (List.mem_append_left _ h)
    · rcases List.mem_cons.1 h with rfl | h
      · rw [hv]
        intro e
        have e' : g = b := by simpa using e
        rcases hb with hb | hb
        · exact hf.2 v (by simp) (by rw [hb, e'])
        · omega
      · exact hf.2 s (List.mem_append_right _ (List.mem_cons_of_mem _ h))
  have n0 : n ≠ 0 := by have := i1.1; omega
  have m0 : m ≠ 0 := by have := i2.1; omega
  exact ⟨sa, n, sc, sb, m, sd, e1, e2, i1.turned fun b hn hb hlt => key b (f1 b hb) hlt, i2.turned fun b hn hb hlt => key b (f2 b hb) hlt,
    fun b hb => far b (f1 b hb) (i1.blk n0 hb), fun b hb => far b (f2 b hb) (i2.blk m0 hb)⟩
theorem VesAt.chg {w w' : World} {R : Nat} {vs : List Value} {v : Value} {S H : List Int} {p q : Value} (h : VesAt w R vs S H p q) (hv : v ∈ vs) (hc : Chg (fun b => v.ownBlock = some b) w w') : VesAt w' R vs S H p q := by
  obtain ⟨sa, n, sc, sb, m, sd, e1, e2, i1, i2, f1, f2⟩ := h
  exact ⟨sa, n, sc, sb, m, sd, e1, e2, i1.turned fun b hn hb hlt => hc.block b hlt ((f1 b hb).2 v hv), i2.turned fun b hn hb hlt => hc.block b hlt ((f2 b hb).2 v hv), f1, f2⟩

/-- The model's search as its own: the box of its rows, and the vessels that they name. -/
structure Reach (w0 w : World) (R base : Nat) (S : List Int) (L : List Node) (O : List Nat) (va vf vm vr vo : Value) (P Q : Nat → Value) : Prop where
  new : New w0 w
  lo : w0.heap.size ≤ R ∧ w0.heap.size ≤ base
  box : BRows R base w [r0 va L.length P Q, r1 vf L, r2 vm L, r3 vr L, r4 vo O]
  ves : ∀ k, k < L.length → VesAt w R [va, vf, vm, vr, vo] S (L[k]?.getD dN).h (P k) (Q k)
  ord : Sorted L O

theorem own_read {w : World} {base : Nat} {e : TypeId} {size n : Nat} {v : Value} {xs : List Value} (h : w.ownsRow base e size v n xs) (hn : 0 < n) : ∃ g cap, v = .slice (some ⟨g, 0, none⟩) n cap ∧ n ≤ cap ∧ base ≤ g ∧ g < w.heap.size ∧ ∀ i u, i < n * size → xs[i]? = some u → w.cell? ⟨g, i, none⟩ = some u ∧ w.frozen? ⟨g, i, none⟩ = false := by
  obtain ⟨_, h⟩ := h
  rcases h with ⟨rfl, rfl⟩ | ⟨g, cap, cur, rfl, hb, hh, hc, hm, hs, ht⟩
  · omega
  · refine ⟨g, cap, rfl, hc, hb, (Array.getElem?_eq_some_iff.1 hh).1, fun i u hi hu => ⟨?_, by simp [World.frozen?, hh]⟩⟩
    rw [← ht, List.getElem?_take, if_pos hi] at hu
    rw [cell_of_row w g _ cur _ (0, 0) hh]
    simpa using hu
theorem Reach.read {w0 w : World} {R base : Nat} {S : List Int} {L : List Node} {O : List Nat} {va vf vm vr vo : Value} {P Q : Nat → Value} (h : Reach w0 w R base S L O va vf vm vr vo P Q) (hL : 0 < L.length) : ReachR w R S L O := by
  have hO := h.ord.len
  obtain ⟨ga, ca, ea, _, _, _, xa⟩ := own_read (h.box.own (r0 va L.length P Q) (by simp)) hL
  obtain ⟨go, co, eo, _, _, _, xo⟩ := own_read (h.box.own (r4 vo O) (by simp)) (by show 0 < O.length; omega)
  have c0 := h.box.cell (r0 va L.length P Q) (by simp)
  have c4 := h.box.cell (r4 vo O) (by simp)
  have ea' : va = .slice (some ⟨ga, 0, none⟩) L.length ca := ea
  have eo' : vo = .slice (some ⟨go, 0, none⟩) O.length co := eo
  refine ⟨ga, ca, go, co, by rw [← ea']; exact c0, by rw [← hO, ← eo']; exact c4, fun k hk => ?_, fun i hi => ?_⟩
  · obtain ⟨sa, n, sc, sb, m, sd, e1, e2, i1, i2, _, _⟩ := h.ves k hk
    obtain ⟨g1, g2⟩ := flatPQ_get P Q hk
    refine ⟨sa, n, sc, sb, m, sd, ?_, ?_, i1, i2⟩
    · rw [← e1]; exact (xa (k * 2) _ (by show k * 2 < L.length * 2; omega) g1).1
    · rw [← e2]; exact (xa (k * 2 + 1) _ (by show k * 2 + 1 < L.length * 2; omega) g2).1
  · refine (xo i _ (by show i < O.length * 1; omega) ?_).1
    show (ordL O)[i]? = _
    unfold ordL
    rw [List.getElem?_map, List.getElem?_eq_getElem (show i < O.length by omega)]
    simp
theorem Reach.newer {w0 w w' : World} {R base : Nat} {S : List Int} {L : List Node} {O : List Nat} {va vf vm vr vo : Value} {P Q : Nat → Value} (h : Reach w0 w R base S L O va vf vm vr vo P Q) (k : New w w') : Reach w0 w' R base S L O va vf vm vr vo P Q :=
  ⟨h.new.trans k, h.lo, h.box.new k, fun j hj => (h.ves j hj).new k, h.ord⟩
theorem ownsRow_at {w : World} {base g : Nat} {e : TypeId} {size : Nat} {cs : List Value} (h : w.heap[g]? = some (.cells cs.toArray e (0, 0))) (hb : base ≤ g) (hs : cs.length = size) : w.ownsRow base e size (.slice (some ⟨g, 0, none⟩) 1 1) 1 cs := by
  subst hs
  refine ⟨by simp, .inr ⟨g, 1, cs.toArray, rfl, hb, h, Nat.le_refl _, by unfold maxLen; omega, by simp, by simp⟩⟩

theorem BRows.five {R base : Nat} {w : World} {a b c d e : BRow}
    (h : ∀ r ∈ [a, b, c, d, e], w.cell? ⟨R, r.o, none⟩ = some r.v ∧ w.frozen? ⟨R, r.o, none⟩ = false ∧ w.ownsRow base r.e r.size r.v r.n r.xs ∧ r.v.ownBlock ≠ some R)
    (hp : [a, b, c, d, e].Pairwise (fun r s => r.o ≠ s.o ∧ ∀ g, r.v.ownBlock = some g → s.v.ownBlock ≠ some g)) : BRows R base w [a, b, c, d, e] :=
  ⟨fun r hr => (h r hr).1, fun r hr => (h r hr).2.1, fun r hr => (h r hr).2.2.1, fun r hr => (h r hr).2.2.2, hp⟩

set_option maxRecDepth 100000 in
theorem reach_start (w : World) (aa ab : Option Addr) (n m ca cb : Nat) (S H : List Int) (h1 : Ints w aa n ca S) (h2 : Ints w ab m cb H) (hg : Good S H) {W : World}
    (hW : W = ((((((w.alloc (.cells #[.slice aa n ca, .slice ab m cb] 28)).alloc (.cells #[.slice aa n ca, .slice ab m cb] 28)).alloc (.cells #[.int .i64 (-1)] 3)).alloc (.cells #[.int .i64 0, .int .i64 0] 77)).alloc (.cells #[.int .i64 0] 3)).alloc (.cells #[.int .i64 0] 3)).alloc
      (.cells #[.slice (some ⟨w.heap.size + 1, 0, none⟩) 1 1, .slice (some ⟨w.heap.size + 1 + 1, 0, none⟩) 1 1, .slice (some ⟨w.heap.size + 1 + 1 + 1, 0, none⟩) 1 1, .slice (some ⟨w.heap.size + 1 + 1 + 1 + 1, 0, none⟩) 1 1, .slice (some ⟨w.heap.size + 1 + 1 + 1 + 1 + 1, 0, none⟩) 1 1] 54)) :
    Reach w W (w.heap.size + 1 + 1 + 1 + 1 + 1 + 1) (w.heap.size + 1) S [⟨H, -1, (0, 0), 0⟩] [0] (.slice (some ⟨w.heap.size + 1, 0, none⟩) 1 1) (.slice (some ⟨w.heap.size + 1 + 1, 0, none⟩) 1 1) (.slice (some ⟨w.heap.size + 1 + 1 + 1, 0, none⟩) 1 1) (.slice (some ⟨w.heap.size + 1 + 1 + 1 + 1, 0, none⟩) 1 1) (.slice (some ⟨w.heap.size + 1 + 1 + 1 + 1 + 1, 0, none⟩) 1 1) (fun _ => .slice aa n ca) (fun _ => .slice ab m cb) := by
  have hn : New w W := by rw [hW]; exact (by repeat (first | with_reducible exact New.refl _ | with_reducible assumption | refine New.drewN ?_ _ | refine New.drew ?_ | refine New.alloc ?_ _ | refine New.setCell ?_ (by first | omega | (simp; omega) | (simp; done)) _ | (refine New.trans ?_ (by assumption))))
  have hp : ∀ k, W.heap[k]? = if k = w.heap.size + 1 + 1 + 1 + 1 + 1 + 1 then some (.cells #[.slice (some ⟨w.heap.size + 1, 0, none⟩) 1 1, .slice (some ⟨w.heap.size + 1 + 1, 0, none⟩) 1 1, .slice (some ⟨w.heap.size + 1 + 1 + 1, 0, none⟩) 1 1, .slice (some ⟨w.heap.size + 1 + 1 + 1 + 1, 0, none⟩) 1 1, .slice (some ⟨w.heap.size + 1 + 1 + 1 + 1 + 1, 0, none⟩) 1 1] 54)
      else if k = w.heap.size + 1 + 1 + 1 + 1 + 1 then some (.cells #[.int .i64 0] 3) else if k = w.heap.size + 1 + 1 + 1 + 1 then some (.cells #[.int .i64 0] 3) else if k = w.heap.size + 1 + 1 + 1 then some (.cells #[.int .i64 0, .int .i64 0] 77) else if k = w.heap.size + 1 + 1 then some (.cells #[.int .i64 (-1)] 3)
      else if k = w.heap.size + 1 then some (.cells #[.slice aa n ca, .slice ab m cb] 28) else if k = w.heap.size then some (.cells #[.slice aa n ca, .slice ab m cb] 28) else w.heap[k]? := fun k => by
    rw [hW]
    simp only [heap_alloc_get, World.size_alloc]
  have n0 : n ≠ 0 := by have := h1.1; have := hg.1; omega
  have m0 : m ≠ 0 := by have := h2.1; have := hg.1; have := hg.2.1; omega
  have far : ∀ b, b < w.heap.size → Far (w.heap.size + 1 + 1 + 1 + 1 + 1 + 1) [.slice (some ⟨w.heap.size + 1, 0, none⟩) 1 1, .slice (some ⟨w.heap.size + 1 + 1, 0, none⟩) 1 1, .slice (some ⟨w.heap.size + 1 + 1 + 1, 0, none⟩) 1 1, .slice (some ⟨w.heap.size + 1 + 1 + 1 + 1, 0, none⟩) 1 1, .slice (some ⟨w.heap.size + 1 + 1 + 1 + 1 + 1, 0, none⟩) 1 1] b := fun b hb => by
    refine ⟨by omega, fun v hv => ?_⟩
    simp only [List.mem_cons, List.not_mem_nil, or_false] at hv
    rcases hv with rfl | rfl | rfl | rfl | rfl <;> simp [Value.ownBlock] <;> omega
  refine ⟨hn, ⟨by omega, by omega⟩, BRows.five (fun r hr => ?_) ?_, fun k hk => ?_, ?_⟩
  · simp only [List.mem_cons, List.not_mem_nil, or_false] at hr
    rcases hr with rfl | rfl | rfl | rfl | rfl
    · exact ⟨by rw [hW]; simp [go_sem, r0], by rw [hW]; simp [go_sem, r0], ownsRow_at (e := 28) (cs := [.slice aa n ca, .slice ab m cb]) (by rw [hp]; simp) (by omega) rfl, by simp [r0, Value.ownBlock]⟩
    · exact ⟨by rw [hW]; simp [go_sem, r1], by rw [hW]; simp [go_sem, r1], ownsRow_at (e := 3) (cs := [.int .i64 (-1)]) (by rw [hp]; simp) (by omega) rfl, by simp [r1, Value.ownBlock]⟩
    · exact ⟨by rw [hW]; simp [go_sem, r2], by rw [hW]; simp [go_sem, r2], ownsRow_at (e := 77) (cs := [.int .i64 0, .int .i64 0]) (by rw [hp]; simp) (by omega) rfl, by simp [r2, Value.ownBlock]⟩
    · exact ⟨by rw [hW]; simp [go_sem, r3], by rw [hW]; simp [go_sem, r3], ownsRow_at (e := 3) (cs := [.int .i64 0]) (by rw [hp]; simp) (by omega) rfl, by simp [r3, Value.ownBlock]⟩
    · exact ⟨by rw [hW]; simp [go_sem, r4], by rw [hW]; simp [go_sem, r4], ownsRow_at (e := 3) (cs := [.int .i64 0]) (by rw [hp]; simp) (by omega) rfl, by simp [r4, Value.ownBlock]⟩
  · simp [r0, r1, r2, r3, r4, Value.ownBlock]
    omega
  · obtain rfl : k = 0 := by simp at hk; exact hk
    exact ⟨aa, n, ca, ab, m, cb, rfl, rfl, h1.new hn, h2.new hn, fun b hb => far b (h1.blk n0 hb), fun b hb => far b (h2.blk m0 hb)⟩
  · exact ⟨rfl, fun i hi => by
      obtain rfl : i = 0 := by simp at hi; exact hi
      simp, fun k hk => ⟨0, by simp, by simp at hk; simp [hk]⟩, fun i j hij hj => by simp at hj; omega⟩

/-- From one world to another: blocks that no growing row lies in are as they were, and no growing row lies in them. -/
def Keeps (w w' : World) (R : Nat) (vs vs' : List Value) : Prop := w.heap.size ≤ w'.heap.size ∧ ∀ b, b < w.heap.size → Far R vs b → w'.heap[b]? = w.heap[b]? ∧ Far R vs' b
theorem Keeps.refl (w : World) (R : Nat) (vs : List Value) : Keeps w w R vs vs := ⟨Nat.le_refl _, fun _ _ h => ⟨rfl, h⟩⟩
theorem Keeps.trans {a b c : World} {R : Nat} {v1 v2 v3 : List Value} (h : Keeps a b R v1 v2) (k : Keeps b c R v2 v3) : Keeps a c R v1 v3 :=
  ⟨Nat.le_trans h.1 k.1, fun i hi hf => by
    have q := h.2 i hi hf
    have q2 := k.2 i (Nat.lt_of_lt_of_le hi h.1) q.2
    exact ⟨q2.1.trans q.1, q2.2⟩⟩
theorem Keeps.of_new {w w' : World} {R : Nat} {vs : List Value} (h : New w w') : Keeps w w' R vs vs := ⟨h.size, fun b hb hf => ⟨h.block b hb, hf⟩⟩
theorem Keeps.of_chg {w w' : World} {R : Nat} {vs : List Value} {v : Value} (hv : v ∈ vs) (h : Chg (fun b => v.ownBlock = some b) w w') : Keeps w w' R vs vs := ⟨h.size, fun b hb hf => ⟨h.block b hb (hf.2 v hv), hf⟩⟩
theorem Keeps.grow {w w' : World} {R g : Nat} {pre post : List Value} {v v' u : Value} {o : Nat} (hg : w.grownBy w' v.ownBlock) (hv : v'.ownBlock = some g) (hb : v.ownBlock = some g ∨ g = w.heap.size) :
    Keeps w (w'.setCell ⟨R, o, none⟩ u) R (pre ++ v :: post) (pre ++ v' :: post) := by
  refine ⟨by have := hg.size; simpa [World.setCell] using this, fun b hlt hf => ⟨?_, hf.1, fun s hs => ?_⟩⟩
  · rw [Below.heap_setCell _ _ _ _ (fun e => hf.1 (by simpa using e))]
    exact hg.block b hlt (fun e => hf.2 v (by simp) e.symm)
  · rcases List.mem_append.1 hs with h | h
    · exact hf.2 s (List.mem_append_left _ h)
    · rcases List.mem_cons.1 h with rfl | h
      · rw [hv]
        intro e
        have e' : g = b := by simpa using e
        rcases hb with hb | hb
        · exact hf.2 v (by simp) (by rw [hb, e'])
        · omega
      · exact hf.2 s (List.mem_append_right _ (List.mem_cons_of_mem _ h))
theorem Keeps.cell {w w' : World} {R : Nat} {vs vs' : List Value} (h : Keeps w w' R vs vs') {p : Addr} {v : Value} (hf : Far R vs p.block) (hc : w.cell? p = some v) : w'.cell? p = some v :=
  (World.cell?_of_block (h.2 p.block (World.block_lt_of_cell? _ _ hc) hf).1).trans hc
theorem VesAt.keep {w w' : World} {R : Nat} {vs vs' : List Value} {S H : List Int} {p q : Value} (h : VesAt w R vs S H p q) (hS : S.length ≠ 0) (hH : H.length ≠ 0) (k : Keeps w w' R vs vs') : VesAt w' R vs' S H p q := by
  obtain ⟨sa, n, sc, sb, m, sd, e1, e2, i1, i2, f1, f2⟩ := h
  have n0 : n ≠ 0 := by have := i1.1; omega
  have m0 : m ≠ 0 := by have := i2.1; omega
  exact ⟨sa, n, sc, sb, m, sd, e1, e2, i1.turned fun b _ hb hlt => (k.2 b hlt (f1 b hb)).1, i2.turned fun b _ hb hlt => (k.2 b hlt (f2 b hb)).1,
    fun b hb => (k.2 b (i1.blk n0 hb) (f1 b hb)).2, fun b hb => (k.2 b (i2.blk m0 hb) (f2 b hb)).2⟩
/-- The moves that are gone through, apart from all that grows. -/
def MovF (w : World) (R : Nat) (vs : List Value) (mo : Option Addr) (mn mc : Nat) (ps : List (Int × Int)) : Prop := Pairs w mo mn mc ps ∧ ∀ b, mn ≠ 0 → blkOf mo = some b → Far R vs b
theorem MovF.keep {w w' : World} {R : Nat} {vs vs' : List Value} {mo : Option Addr} {mn mc : Nat} {ps : List (Int × Int)} (h : MovF w R vs mo mn mc ps) (k : Keeps w w' R vs vs') : MovF w' R vs' mo mn mc ps := by
  obtain ⟨⟨h1, h2, h3, h4, h5⟩, hf⟩ := h
  refine ⟨⟨h1, h2, h3, fun j hj => ?_, h5⟩, fun b hn hb => ?_⟩
  · obtain ⟨b, o, e, c0, c1⟩ := h4 j hj
    have f := hf b (by omega) (by rw [e]; rfl)
    exact ⟨b, o, e, k.cell f c0, k.cell f c1⟩
  · obtain ⟨b', o, e, c0, _⟩ := h4 0 (by omega)
    have e' : b' = b := by rw [e] at hb; simpa [blkOf] using hb
    subst e'
    exact (k.2 b' (World.block_lt_of_cell? _ _ c0) (hf b' hn hb)).2
/-- One row has grown: the box, what stands, what is new. -/
theorem BRows.grown {R base : Nat} {w0 w wA w' : World} {pre post : List BRow} {r : BRow} {n' g cap : Nat} {xs' : List Value} (h : BRows R base w (pre ++ r :: post)) (hA : New w wA)
    (ho : w'.ownsRow base r.e r.size (.slice (some ⟨g, 0, none⟩) n' cap) n' xs') (hg : wA.grownBy w' r.v.ownBlock) (hb : r.v.ownBlock = some g ∨ g = wA.heap.size) (hw : New w0 w) (h0 : w0.heap.size ≤ R) (h1 : w0.heap.size ≤ base) :
    BRows R base (w'.setCell ⟨R, r.o, none⟩ (.slice (some ⟨g, 0, none⟩) n' cap)) (pre ++ r.as (.slice (some ⟨g, 0, none⟩) n' cap) n' xs' :: post) ∧
      Keeps w (w'.setCell ⟨R, r.o, none⟩ (.slice (some ⟨g, 0, none⟩) n' cap)) R ((pre ++ r :: post).map (·.v)) ((pre ++ r.as (.slice (some ⟨g, 0, none⟩) n' cap) n' xs' :: post).map (·.v)) ∧
      New w0 (w'.setCell ⟨R, r.o, none⟩ (.slice (some ⟨g, 0, none⟩) n' cap)) := by
  have hB := h.new hA
  refine ⟨hB.grow ho hg hb, ?_, hB.frame (hw.trans hA) h0 h1 hg⟩
  rw [List.map_append, List.map_cons, List.map_append, List.map_cons]
  exact (Keeps.of_new hA).trans (Keeps.grow hg rfl hb)
/-- A step of the search's growth: the rows that there are, what stands, what is new. -/
def Grew (w0 w W : World) (R base : Nat) (rs rs' : List BRow) : Prop := BRows R base W rs' ∧ Keeps w W R (rs.map (·.v)) (rs'.map (·.v)) ∧ New w0 W
theorem rowIs_own {w : World} {base b cap n : Nat} {f : Nat → Value} {xs : List Value} (h : w.rowIs b 3 cap f) (hn : n ≤ cap) (hm : cap ≤ maxLen) (hl : xs.length = n) (hx : ∀ i, i < n → xs[i]? = some (f i)) (hb : base ≤ b) : w.ownsRow base 3 1 (.slice (some ⟨b, 0, none⟩) n cap) n xs := by
  obtain ⟨c, hh, hs, hc⟩ := h
  refine ⟨by omega, .inr ⟨b, cap, c, rfl, hb, hh, hn, hm, by omega, ?_⟩⟩
  apply List.ext_getElem?
  intro i
  by_cases hi : i < n
  · rw [List.getElem?_take, if_pos (by omega), hx i hi]
    simpa using hc i (by omega)
  · rw [List.getElem?_eq_none (by rw [List.length_take]; omega), List.getElem?_eq_none (by omega)]
theorem splice_get {α : Type} {L cs : List α} {off : Nat} (h : off + cs.length ≤ L.length) (i : Nat) : (splice L off cs)[i]? = if i < off then L[i]? else if i < off + cs.length then cs[i - off]? else L[i]? := by
  unfold splice
  by_cases h1 : i < off
  · rw [if_pos h1, List.getElem?_append_left (by rw [List.length_take]; omega), List.getElem?_take, if_pos h1]
  · rw [if_neg h1, List.getElem?_append_right (by rw [List.length_take]; omega), List.length_take, show min off L.length = off by omega]
    by_cases h2 : i < off + cs.length
    · rw [if_pos h2, List.getElem?_append_left (by omega)]
    · rw [if_neg h2, List.getElem?_append_right (by omega), List.getElem?_drop, show off + cs.length + (i - off - cs.length) = i by omega]
theorem ordL_get (O : List Nat) {i : Nat} (hi : i < O.length) : (ordL O)[i]? = some (.int .i64 ((O[i]?.getD 0 : Nat) : Int)) := by
  unfold ordL
  rw [List.getElem?_map, List.getElem?_eq_getElem hi]
  simp
theorem ordL_length (O : List Nat) : (ordL O).length = O.length := by simp [ordL]
/-- The order with one number more, laid by a copy and a store. -/
theorem order_put {w' : World} {base gb capb T a : Nat} {O : List Nat} {cur : Array Value} (hO : O.length = T) (ha : a ≤ T) (hsz : cur.size = capb) (hT : T + 1 ≤ capb) (hm : capb ≤ maxLen) (hb : base ≤ gb)
    (ht : cur.toList.take (T + 1) = ordL O ++ [.int .i64 0]) (hw : w'.heap[gb]? = some (.cells (splice cur.toList (a + 1) ((ordL O).drop a)).toArray 3 (0, 0))) :
    (∃ z : Int, w'.cell? ⟨gb, a, none⟩ = some (.int .i64 z)) ∧ w'.frozen? ⟨gb, a, none⟩ = false ∧ (w'.setCell ⟨gb, a, none⟩ (.int .i64 (T : Int))).ownsRow base 3 1 (.slice (some ⟨gb, 0, none⟩) (T + 1) capb) (T + 1) (ordL (insN O a T)) := by
  have hl : ((ordL O).drop a).length = T - a := by rw [List.length_drop, ordL_length, hO]
  have hfit : a + 1 + ((ordL O).drop a).length ≤ cur.toList.length := by rw [hl]; simp; omega
  have hcur : ∀ i, i < T + 1 → cur.toList[i]? = (ordL O ++ [Value.int .i64 0])[i]? := fun i hi => by rw [← ht, List.getElem?_take, if_pos hi]
  have hr : w'.rowIs gb 3 capb (fun i => ((splice cur.toList (a + 1) ((ordL O).drop a))[i]?).getD undef) := by
    refine ⟨_, hw, by simp [length_splice _ _ _ hfit, hsz], fun i hi => ?_⟩
    have : i < (splice cur.toList (a + 1) ((ordL O).drop a)).length := by rw [length_splice _ _ _ hfit]; simp; omega
    simp [List.getElem?_eq_getElem this]
  refine ⟨?_, hr.frozen a, ?_⟩
  · rw [hr.cell (by omega), splice_get hfit, if_pos (by omega), hcur a (by omega)]
    by_cases h : a < T
    · rw [List.getElem?_append_left (by rw [ordL_length]; omega), ordL_get O (by omega)]
      exact ⟨_, rfl⟩
    · rw [List.getElem?_append_right (by rw [ordL_length]; omega), ordL_length, show a - O.length = 0 by omega]
      exact ⟨_, rfl⟩
  · refine rowIs_own (hr.set a _) hT hm (by rw [ordL_length, insN_length (by omega), hO]) (fun i hi => ?_) hb
    rw [ordL_get _ (by rw [insN_length (by omega), hO]; exact hi), insN_get (by omega)]
    by_cases h1 : i = a
    · subst h1
      rw [if_neg (by omega), if_pos rfl, if_pos rfl]
    · simp only [h1, if_false]
      rw [splice_get hfit]
      by_cases h2 : i < a
      · simp only [h2, if_true]
        rw [if_pos (by omega), hcur i hi, List.getElem?_append_left (by rw [ordL_length]; omega), ordL_get O (by omega)]
        rfl
      · simp only [h2, if_false]
        rw [if_neg (by omega), if_pos (by rw [hl]; omega), List.getElem?_drop, show a + (i - (a + 1)) = i - 1 by omega, ordL_get O (by omega)]
        rfl
theorem as_r4 {v v' : Value} {O O' : List Nat} {n : Nat} (h : n = O'.length) : (r4 v O).as v' n (ordL O') = r4 v' O' := by unfold BRow.as r4; rw [h]
theorem as_r1 {v v' : Value} {L : List Node} {x : Node} {n : Nat} (h : n = L.length + 1) : (r1 v L).as v' n (frL L ++ [.int .i64 x.fr]) = r1 v' (L ++ [x]) := by unfold BRow.as r1; rw [h]; simp [frL]
theorem as_r2 {v v' : Value} {L : List Node} {x : Node} {n : Nat} (h : n = L.length + 1) : (r2 v L).as v' n (mvL L ++ [.int .i64 x.mv.1, .int .i64 x.mv.2]) = r2 v' (L ++ [x]) := by unfold BRow.as r2; rw [h]; simp [mvL, flat]
theorem as_r3 {v v' : Value} {L : List Node} {x : Node} {n : Nat} (h : n = L.length + 1) : (r3 v L).as v' n (farL L ++ [.int .i64 (x.far : Int)]) = r3 v' (L ++ [x]) := by unfold BRow.as r3; rw [h]; simp [farL]
/-- One value more. -/
def upto (P : Nat → Value) (N : Nat) (u : Value) : Nat → Value := fun k => if k = N then u else P k
theorem as_r0 {v v' p q : Value} {P Q : Nat → Value} {N n : Nat} (h : n = N + 1) : (r0 v N P Q).as v' n (flatPQ P Q N ++ [p, q]) = r0 v' (N + 1) (upto P N p) (upto Q N q) := by
  unfold BRow.as r0
  subst h
  have e : flatPQ (upto P N p) (upto Q N q) N = flatPQ P Q N := flatPQ_congr fun j hj => by unfold upto; rw [if_neg (by omega), if_neg (by omega)]; exact ⟨rfl, rfl⟩
  have e2 : upto P N p N = p ∧ upto Q N q N = q := by unfold upto; rw [if_pos rfl, if_pos rfl]; exact ⟨rfl, rfl⟩
  simp only [flatPQ, e, e2.1, e2.2]
theorem five_far {w : World} {R base : Nat} {N : Nat} {L : List Node} {O : List Nat} {va vf vm vr vo : Value} {P Q : Nat → Value} (h : BRows R base w [r0 va N P Q, r1 vf L, r2 vm L, r3 vr L, r4 vo O]) {b : Nat} (hb : w.heap.size ≤ b) : Far R [va, vf, vm, vr, vo] b := by
  refine ⟨by have := h.lt (r := r0 va N P Q) (by simp); omega, fun v hv e2 => ?_⟩
  have low : ∀ r ∈ [r0 va N P Q, r1 vf L, r2 vm L, r3 vr L, r4 vo O], r.v.ownBlock ≠ some b := fun r hr e3 => by
    have := (h.own r hr).lt _ e3
    omega
  simp only [List.mem_cons, List.not_mem_nil, or_false] at hv
  rcases hv with rfl | rfl | rfl | rfl | rfl
  · exact low (r0 v N P Q) (by simp) e2
  · exact low (r1 v L) (by simp) e2
  · exact low (r2 v L) (by simp) e2
  · exact low (r3 v L) (by simp) e2
  · exact low (r4 v O) (by simp) e2
end Go.Proofs.Ytilepckgcgdjgaa
