/- The contract of behindTicks. -/
import Derived.Test.YtnahlemchajfdaaMtY
import Derived.Test.YtnahlemchajfdaaMtZ
namespace Go.Proofs.Ytnahlemchajfdaa.Meta
open Go Go.Conc Go.Proofs

def dli (d : Int) : Nat → Int → List Int
  | 0, _ => []
  | n + 1, s => if 0 < s then nx d s :: dli d n (nx d s) else []
theorem dl_eq (d : Int) : ∀ (n : Nat) (s : Int), dl d n s = (dli d n s).map (.int .i64) := by
  intro n
  induction n with
  | zero => intro s; rfl
  | succ n ih =>
    intro s
    simp only [dl, dli]
    split
    · simp [ih]
    · rfl

/-- What is left when all ticks have been heard. -/
structure TicksPost (w : World) (zs : List Int) (v : Value) (w' : World) : Prop where
  own : w'.ownsRow w.heap.size 3 1 v zs.length (zs.map (.int .i64))
  old : ∀ k, k < w.heap.size → w'.heap[k]? = w.heap[k]?
  sz : w.heap.size ≤ w'.heap.size

theorem ownsRow_base' {w : World} {base base' : Nat} {e : TypeId} {size : Nat} {v : Value} {n : Nat} {xs : List Value} (h : w.ownsRow base e size v n xs) (hb : base' ≤ base) : w.ownsRow base' e size v n xs := by
  obtain ⟨h1, h2⟩ := h
  refine ⟨h1, ?_⟩
  rcases h2 with h2 | ⟨g, cap, cur, a, b, c⟩
  · exact .inl h2
  · exact .inr ⟨g, cap, cur, a, Nat.le_trans hb b, c⟩

/-- What the worker reads, and the end still open. -/
def KT (c e x3 x4 x5 x7 x8 bC : Nat) (L d : Int) (w : World) : Prop := KC c e x3 x4 x5 x7 x8 bC L d w ∧ ∃ s r tm, w.heap[e]? = some (.chan 0 #[] false s r tm)
def ST (B e : Nat) (l : Loc) : Prop := l = .obj e ∨ ∃ p : Addr, l = .cell p ∧ p.block < B

theorem kc_same {c e x3 x4 x5 x7 x8 bC : Nat} {L d : Int} {w w' : World} (h : KC c e x3 x4 x5 x7 x8 bC L d w) (hs : ∀ k, (k = x3 ∨ k = x4 ∨ k = x5 ∨ k = x7 ∨ k = x8 ∨ k = bC) → w'.heap[k]? = w.heap[k]?) : KC c e x3 x4 x5 x7 x8 bC L d w' :=
  ⟨(World.cell?_of_block (hs x3 (by simp))).trans h.c3, (World.cell?_of_block (hs x4 (by simp))).trans h.c4, (World.cell?_of_block (hs x5 (by simp))).trans h.c5,
   (World.cell?_of_block (hs x7 (by simp))).trans h.c7, (World.cell?_of_block (hs x8 (by simp))).trans h.c8, (World.cell?_of_block (hs bC (by simp))).trans h.cd⟩
theorem kt_setChan {c e x3 x4 x5 x7 x8 bC : Nat} {L d : Int} {w : World} {s r s' r' : Nat} {tm : Bool} (hce : e ≠ c) (h : KT c e x3 x4 x5 x7 x8 bC L d w) (hc : w.heap[c]? = some (.chan 0 #[] false s r tm)) : KT c e x3 x4 x5 x7 x8 bC L d (w.setChan c 0 #[] false s' r' tm) := by
  obtain ⟨hk, q, t, tm', he⟩ := h
  refine ⟨kc_same hk fun k hk' => setChan_block ?_, q, t, tm', (setChan_block hce).trans he⟩
  rcases hk' with rfl | rfl | rfl | rfl | rfl | rfl
  · exact cell_not_chan hk.c3 hc
  · exact cell_not_chan hk.c4 hc
  · exact cell_not_chan hk.c5 hc
  · exact cell_not_chan hk.c7 hc
  · exact cell_not_chan hk.c8 hc
  · exact cell_not_chan hk.cd hc

theorem kt_wt {c e x3 x4 x5 x7 x8 bC : Nat} {L d : Int} {w : World} (h : KT c e x3 x4 x5 x7 x8 bC L d w) (τ : Nat → Question → Nat) (q : Nat) : KT c e x3 x4 x5 x7 x8 bC L d (wt w τ q) := ⟨kc_same h.1 fun _ _ => rfl, h.2⟩
theorem re_size {e : Nat} {w w1 : World} (h : RE e w w1) : w1.heap.size = w.heap.size := by
  obtain ⟨d, rfl | ⟨s, r, tm, hs, rfl⟩⟩ := h
  · rfl
  · simp [World.setChan]; rfl
theorem re_block {e k : Nat} {w w1 : World} (h : RE e w w1) (hk : k ≠ e) : w1.heap[k]? = w.heap[k]? := by
  obtain ⟨d, rfl | ⟨s, r, tm, hs, rfl⟩⟩ := h
  · rfl
  · exact setChan_block hk

set_option maxHeartbeats 8000000 in
theorem ticks_any {w : World} {L d : Int} {bC n : Nat} (hcell : w.cell? ⟨bC, 1, none⟩ = some (.int .i64 d)) (hL : L.toNat ≤ n) (hU : ∀ x, 0 < x → x ≤ L → Up x d ∧ nx d x < x) (hlen : (dli d n L).length < 999990) :
    CallsC Try.prog 40 #[.int .i64 L, .func (.func 41) #[] #[.pointer (some ⟨bC, 0, none⟩)], .func (.func 43) #[] #[]] w (TicksPost w (L :: dli d n L)) := by
  refine CallsC.of_body Try.func40 rfl fun Stop cf rest hn hnext => ?_
  refine gc_act (a' := ⟨#[.int .i64 (L), .func (.func 41) #[] #[.pointer (some ⟨bC, 0, none⟩)], .func (.func 43) #[] #[], undef, undef, undef, undef, undef, undef, undef, undef, undef, undef, undef, undef, undef, undef, undef, undef, undef, undef, undef, undef, undef, undef, undef, undef, undef], []⟩) (by simp only [Try.ntmps40, List.size_toArray, List.length_cons, List.length_nil, Nat.reduceAdd, Nat.reduceSub, Array.replicate_succ, Array.replicate_zero, List.push_toArray, List.append_toArray, List.nil_append, List.cons_append]) ?_
  refine gc_seq (gc_region ?_)
  refine gc_new (w1 := w.alloc (.cells #[.int .i64 L] 3)) (v := .pointer (some ⟨w.heap.size, 0, none⟩)) rfl (by rfl) rfl (by rfl) hn (by intro τ d; simp [execOp, go_sem]; exact ⟨rfl, rfl⟩) fun hn1 => ?_
  refine gc_act (a' := ⟨#[.int .i64 (L), .func (.func 41) #[] #[.pointer (some ⟨bC, 0, none⟩)], .func (.func 43) #[] #[], .pointer (some ⟨w.heap.size, 0, none⟩), undef, undef, undef, undef, undef, undef, undef, undef, undef, undef, undef, undef, undef, undef, undef, undef, undef, undef, undef, undef, undef, undef, undef, undef], []⟩) rfl ?_
  refine gc_new (w1 := (w.alloc (.cells #[.int .i64 L] 3)).alloc (.cells #[.func (.func 41) #[] #[.pointer (some ⟨bC, 0, none⟩)]] 52)) (v := .pointer (some ⟨w.heap.size + 1, 0, none⟩)) rfl (by rfl) rfl (by rfl) hn1 (by intro τ d; simp [execOp, go_sem]; exact ⟨by show (w.alloc _).heap.size = _; simp, rfl⟩) fun hn2 => ?_
  refine gc_act (a' := ⟨#[.int .i64 (L), .func (.func 41) #[] #[.pointer (some ⟨bC, 0, none⟩)], .func (.func 43) #[] #[], .pointer (some ⟨w.heap.size, 0, none⟩), .pointer (some ⟨w.heap.size + 1, 0, none⟩), undef, undef, undef, undef, undef, undef, undef, undef, undef, undef, undef, undef, undef, undef, undef, undef, undef, undef, undef, undef, undef, undef, undef], []⟩) rfl ?_
  refine gc_new (w1 := ((w.alloc (.cells #[.int .i64 L] 3)).alloc (.cells #[.func (.func 41) #[] #[.pointer (some ⟨bC, 0, none⟩)]] 52)).alloc (.cells #[.func (.func 43) #[] #[]] 53)) (v := .pointer (some ⟨w.heap.size + 1 + 1, 0, none⟩)) rfl (by rfl) rfl (by rfl) hn2 (by intro τ d; simp [execOp, go_sem]; exact ⟨by show ((w.alloc _).alloc _).heap.size = _; simp, rfl⟩) fun hn3 => ?_
  refine gc_act (a' := ⟨#[.int .i64 (L), .func (.func 41) #[] #[.pointer (some ⟨bC, 0, none⟩)], .func (.func 43) #[] #[], .pointer (some ⟨w.heap.size, 0, none⟩), .pointer (some ⟨w.heap.size + 1, 0, none⟩), .pointer (some ⟨w.heap.size + 1 + 1, 0, none⟩), undef, undef, undef, undef, undef, undef, undef, undef, undef, undef, undef, undef, undef, undef, undef, undef, undef, undef, undef, undef, undef, undef], []⟩) rfl ?_
  refine gc_assign rfl (by rfl) rfl hn3 rfl ?_
  refine gc_act (a' := ⟨#[.int .i64 (L), .func (.func 41) #[] #[.pointer (some ⟨bC, 0, none⟩)], .func (.func 43) #[] #[], .pointer (some ⟨w.heap.size, 0, none⟩), .pointer (some ⟨w.heap.size + 1, 0, none⟩), .pointer (some ⟨w.heap.size + 1 + 1, 0, none⟩), .slice none 0 0, undef, undef, undef, undef, undef, undef, undef, undef, undef, undef, undef, undef, undef, undef, undef, undef, undef, undef, undef, undef, undef], []⟩) rfl ?_
  have z3 : (((w.alloc (.cells #[.int .i64 L] 3)).alloc (.cells #[.func (.func 41) #[] #[.pointer (some ⟨bC, 0, none⟩)]] 52)).alloc (.cells #[.func (.func 43) #[] #[]] 53)).heap.size = w.heap.size + 1 + 1 + 1 := by simp
  have q3 : (((w.alloc (.cells #[.int .i64 L] 3)).alloc (.cells #[.func (.func 41) #[] #[.pointer (some ⟨bC, 0, none⟩)]] 52)).alloc (.cells #[.func (.func 43) #[] #[]] 53)).cell? ⟨w.heap.size, 0, none⟩ = some (.int .i64 L) := cell_in (t := 3) ((alloc_old (by simp <;> omega)).trans ((alloc_old (by simp <;> omega)).trans (alloc_new rfl)))
  have q4 : (((w.alloc (.cells #[.int .i64 L] 3)).alloc (.cells #[.func (.func 41) #[] #[.pointer (some ⟨bC, 0, none⟩)]] 52)).alloc (.cells #[.func (.func 43) #[] #[]] 53)).cell? ⟨w.heap.size + 1, 0, none⟩ = some (.func (.func 41) #[] #[.pointer (some ⟨bC, 0, none⟩)]) := cell_in (t := 52) ((alloc_old (by simp <;> omega)).trans (alloc_new (by simp)))
  have q5 : (((w.alloc (.cells #[.int .i64 L] 3)).alloc (.cells #[.func (.func 41) #[] #[.pointer (some ⟨bC, 0, none⟩)]] 52)).alloc (.cells #[.func (.func 43) #[] #[]] 53)).cell? ⟨w.heap.size + 1 + 1, 0, none⟩ = some (.func (.func 43) #[] #[]) := cell_in (t := 53) (alloc_new (by simp))
  have o3 : ∀ k, k < w.heap.size → (((w.alloc (.cells #[.int .i64 L] 3)).alloc (.cells #[.func (.func 41) #[] #[.pointer (some ⟨bC, 0, none⟩)]] 52)).alloc (.cells #[.func (.func 43) #[] #[]] 53)).heap[k]? = w.heap[k]? := fun k hk => (alloc_old (by simp <;> omega)).trans ((alloc_old (by simp <;> omega)).trans (alloc_old hk))
  generalize ((w.alloc (.cells #[.int .i64 L] 3)).alloc (.cells #[.func (.func 41) #[] #[.pointer (some ⟨bC, 0, none⟩)]] 52)).alloc (.cells #[.func (.func 43) #[] #[]] 53) = w3 at hn3 z3 q3 q4 q5 o3 ⊢
  refine gc_nil (gc_seq ?_)
  refine gc_code (c := r40) (⟨unready_of (by kernel_rfl), shut_none _⟩) rfl ⟨_, Try.func40⟩ (by kernel_rfl) rfl hn3 fun K R hK hR τ => region1 _ K R fun c e x7 x8 W hM => hK _ _ fun hnW => ?_
  clear hK hR K R
  replace hM : Made w3 W c e x7 x8 := ⟨hM.sz, hM.old, hM.hc, hM.he, hM.h7, hM.h8, hM.c0, hM.e0, hM.ce⟩
  clear hn1 hn2 τ
  refine gc_seq (gc_region ?_)
  refine gc_val (v := .func (.func 44) #[] #[.pointer (some ⟨x8, 0, none⟩), .pointer (some ⟨x7, 0, none⟩), .pointer (some ⟨w.heap.size, 0, none⟩), .pointer (some ⟨w.heap.size + 1, 0, none⟩), .pointer (some ⟨w.heap.size + 1 + 1, 0, none⟩)]) rfl (by rfl) rfl (by rfl) hnW (by intro τ d; simp [execOp, go_sem]) ?_
  refine gc_act (a' := ⟨#[.int .i64 (L), .func (.func 41) #[] #[.pointer (some ⟨bC, 0, none⟩)], .func (.func 43) #[] #[], .pointer (some ⟨w.heap.size, 0, none⟩), .pointer (some ⟨w.heap.size + 1, 0, none⟩), .pointer (some ⟨w.heap.size + 1 + 1, 0, none⟩), .slice none 0 0, .pointer (some ⟨x7, 0, none⟩), .pointer (some ⟨x8, 0, none⟩), undef, undef, .chan (some c), .chan (some e), .func (.func 44) #[] #[.pointer (some ⟨x8, 0, none⟩), .pointer (some ⟨x7, 0, none⟩), .pointer (some ⟨w.heap.size, 0, none⟩), .pointer (some ⟨w.heap.size + 1, 0, none⟩), .pointer (some ⟨w.heap.size + 1 + 1, 0, none⟩)], undef, undef, undef, undef, undef, undef, undef, undef, undef, undef, undef, undef, undef, undef], []⟩) rfl ?_
  have hcl : c < W.heap.size := (Array.getElem?_eq_some_iff.1 hM.hc).1
  have hel : e < W.heap.size := (Array.getElem?_eq_some_iff.1 hM.he).1
  have h7l : x7 < W.heap.size := World.block_lt_of_cell? _ _ hM.h7
  have h8l : x8 < W.heap.size := World.block_lt_of_cell? _ _ hM.h8
  have hbl : bC < w.heap.size := World.block_lt_of_cell? _ _ hcell
  have hsz := hM.sz
  have hc0 := hM.c0
  have he0 := hM.e0
  have hK : KT c e w.heap.size (w.heap.size + 1) (w.heap.size + 1 + 1) x7 x8 bC L d W := by
    refine ⟨⟨?_, ?_, ?_, hM.h7, hM.h8, ?_⟩, 0, 0, false, hM.he⟩
    · exact (World.cell?_of_block (hM.old _ (by show w.heap.size < _; omega))).trans q3
    · exact (World.cell?_of_block (hM.old _ (by show w.heap.size + 1 < _; omega))).trans q4
    · exact (World.cell?_of_block (hM.old _ (by show w.heap.size + 1 + 1 < _; omega))).trans q5
    · exact (World.cell?_of_block (hM.old _ (by show bC < _; omega))).trans ((World.cell?_of_block (o3 _ hbl)).trans hcell)
  have hold : ∀ k, k < w.heap.size → W.heap[k]? = w.heap[k]? := fun k hk => (hM.old k (by omega)).trans (o3 k hk)
  refine phase (K := KT c e w.heap.size (w.heap.size + 1) (w.heap.size + 1 + 1) x7 x8 bC L d) (Still := ST W.heap.size e) (c := c) (e := e) (z := .tuple #[]) (z0 := .int .i64 0) (z1 := .agg #[]) (B := W.heap.size) (vs := dl d n L)
    (child := born Try.prog { target := .fn (.func 44) #[.pointer (some ⟨x8, 0, none⟩), .pointer (some ⟨x7, 0, none⟩), .pointer (some ⟨w.heap.size, 0, none⟩), .pointer (some ⟨w.heap.size + 1, 0, none⟩), .pointer (some ⟨w.heap.size + 1 + 1, 0, none⟩)], args := #[] })
    (fun l hl => ?_) (fun w d h => kt_wt h w.tape d) (fun w h => h.2) (fun w s r s' r' tm h hc => kt_setChan hM.ce h hc) hM.ce rfl (spawn_of (by rfl) rfl (by simp [base]) rfl rfl) (fun τ => ?_) ?_ (fun τ => kt_wt hK τ 0) (Nat.le_refl _) ⟨0, 0, false, hM.hc⟩
  · rcases hl with rfl | ⟨p, rfl, _⟩ <;> rfl
  · have hn4 : NPW (wt W τ 0) := hnW.eq rfl
    have hL3 : (wt W τ 0).cell? ⟨w.heap.size, 0, none⟩ = some (.int .i64 L) := hK.1.c3
    have hc0' : w.heap.size ≤ c := by omega
    have he0' : w.heap.size ≤ e := by omega
    have hSB : ∀ p, ST W.heap.size e (.cell p) → p.block < W.heap.size := by
      rintro p (h | ⟨q, h, hq⟩)
      · cases h
      · cases h; exact hq
    refine ht_bind ?_
    refine gr_nil (gr_seq (gr_region ?_))
    refine gr_val (v := .int .i64 (L)) (by simp [base]) (by rfl) rfl (by rfl) hn4 (by intro w1 h1; have h7 := cell_rely hL3 h1; simp [execOp, go_sem, h7]) (by intro w1 h1 x hx; have h7 := cell_rely hL3 h1; simp [execOp, go_sem, h7] at hx; subst hx; exact ⟨rfl, fun m h => by cases h⟩) ?_
    refine gr_act (a' := ⟨#[.int .i64 (L), .func (.func 41) #[] #[.pointer (some ⟨bC, 0, none⟩)], .func (.func 43) #[] #[], .pointer (some ⟨w.heap.size, 0, none⟩), .pointer (some ⟨w.heap.size + 1, 0, none⟩), .pointer (some ⟨w.heap.size + 1 + 1, 0, none⟩), .slice none 0 0, .pointer (some ⟨x7, 0, none⟩), .pointer (some ⟨x8, 0, none⟩), undef, undef, .chan (some c), .chan (some e), .func (.func 44) #[] #[.pointer (some ⟨x8, 0, none⟩), .pointer (some ⟨x7, 0, none⟩), .pointer (some ⟨w.heap.size, 0, none⟩), .pointer (some ⟨w.heap.size + 1, 0, none⟩), .pointer (some ⟨w.heap.size + 1 + 1, 0, none⟩)], .int .i64 (L), undef, undef, undef, undef, undef, undef, undef, undef, undef, undef, undef, undef, undef], []⟩) rfl ?_
    refine gr_op (by simp [base]) (by rfl) rfl (by rfl) hn4 fun w1 h1 hn5 => ⟨.slice (some ⟨w1.heap.size, 0, none⟩) 1 1, w1.alloc (.cells #[.int .i64 L] 3), by simp [execOp, go_sem, Act.eval], ?_, ?_, ?_, ?_, fun hn6 => ?_⟩
    all_goals have hz1 : w1.heap.size = W.heap.size := (re_size h1 : w1.heap.size = (wt W τ 0).heap.size)
    all_goals have hrel : ∀ k, k < w.heap.size → w1.heap[k]? = W.heap[k]? := fun k hk => (re_block h1 (by omega) : w1.heap[k]? = (wt W τ 0).heap[k]?)
    · intro x hx; simp [execOp, go_sem, Act.eval] at hx
    · intro hk; exact ⟨kc_same hk.1 fun k hk' => alloc_old (by rcases hk' with rfl | rfl | rfl | rfl | rfl | rfl <;> omega), by obtain ⟨q, r, tm, h⟩ := hk.2; exact ⟨q, r, tm, (alloc_old (by omega)).trans h⟩⟩
    · exact alloc_old (by omega)
    · exact alloc_old (by omega)
    have hJ : JH w W.heap.size c e x7 x8 (.slice (some ⟨w1.heap.size, 0, none⟩) 1 1) [.int .i64 L] (w1.alloc (.cells #[.int .i64 L] 3)) := ⟨hn6, by simp; omega, (World.cell?_of_block (alloc_old (by show x7 < _; omega))).trans (cell_rely (W := wt W τ 0) hM.h7 h1), (World.cell?_of_block (alloc_old (by show x8 < _; omega))).trans (cell_rely (W := wt W τ 0) hM.h8 h1), World.ownsRow_lit w1 _ 1 (by omega) (by decide) rfl, fun k hk => (alloc_old (by omega)).trans ((hrel k hk).trans (hold k hk))⟩
    refine gr_act (a' := ⟨#[.int .i64 (L), .func (.func 41) #[] #[.pointer (some ⟨bC, 0, none⟩)], .func (.func 43) #[] #[], .pointer (some ⟨w.heap.size, 0, none⟩), .pointer (some ⟨w.heap.size + 1, 0, none⟩), .pointer (some ⟨w.heap.size + 1 + 1, 0, none⟩), .slice none 0 0, .pointer (some ⟨x7, 0, none⟩), .pointer (some ⟨x8, 0, none⟩), undef, undef, .chan (some c), .chan (some e), .func (.func 44) #[] #[.pointer (some ⟨x8, 0, none⟩), .pointer (some ⟨x7, 0, none⟩), .pointer (some ⟨w.heap.size, 0, none⟩), .pointer (some ⟨w.heap.size + 1, 0, none⟩), .pointer (some ⟨w.heap.size + 1 + 1, 0, none⟩)], .int .i64 (L), .slice (some ⟨w1.heap.size, 0, none⟩) 1 1, undef, undef, undef, undef, undef, undef, undef, undef, undef, undef, undef, undef], []⟩) rfl ?_
    refine gr_assign (by simp [base]) (by rfl) rfl hn6 rfl ?_
    refine gr_act (a' := ⟨#[.int .i64 (L), .func (.func 41) #[] #[.pointer (some ⟨bC, 0, none⟩)], .func (.func 43) #[] #[], .pointer (some ⟨w.heap.size, 0, none⟩), .pointer (some ⟨w.heap.size + 1, 0, none⟩), .pointer (some ⟨w.heap.size + 1 + 1, 0, none⟩), .slice none 0 0, .pointer (some ⟨x7, 0, none⟩), .pointer (some ⟨x8, 0, none⟩), .slice (some ⟨w1.heap.size, 0, none⟩) 1 1, undef, .chan (some c), .chan (some e), .func (.func 44) #[] #[.pointer (some ⟨x8, 0, none⟩), .pointer (some ⟨x7, 0, none⟩), .pointer (some ⟨w.heap.size, 0, none⟩), .pointer (some ⟨w.heap.size + 1, 0, none⟩), .pointer (some ⟨w.heap.size + 1 + 1, 0, none⟩)], .int .i64 (L), .slice (some ⟨w1.heap.size, 0, none⟩) 1 1, undef, undef, undef, undef, undef, undef, undef, undef, undef, undef, undef, undef], []⟩) rfl ?_
    refine gr_nil (gr_block (gr_loop (.stop fun w2 h2 => ?_)))
    rw [dl_eq]
    refine h_loop hc0' he0' (by omega) h7l h8l hcl hel (fun p hp => hSB p hp) (fun w w' hs hk => ⟨kc_same hk.1 fun k hk' => hs k (by rcases hk' with rfl | rfl | rfl | rfl | rfl | rfl <;> omega), by obtain ⟨q, r, tm, h⟩ := hk.2; exact ⟨q, r, tm, (hs e hel).trans h⟩⟩) (dli d n L) [.int .i64 L] _ w2 _ _ _ _ _ _ _ _ _ _ _ _ _ _ _ _ _ _ _ _ _ _ _ _ _ (hJ.rely he0' h2) (by simp; omega) fun s' W' hJ' => ?_
    intros
    refine h_end hJ' (hnext s' W' ⟨?_, hJ'.outer, ?_⟩ hJ'.np)
    · simpa using ownsRow_base' (base' := w.heap.size) hJ'.own (by omega)
    · have := hJ'.lo; omega
  · exact w_child (fun w h => h.1) (fun p hp => .inr ⟨p, rfl, hp⟩) (.inl rfl) hel (by omega) (by omega) (by omega) h7l h8l (by omega) n hL hU
end Go.Proofs.Ytnahlemchajfdaa.Meta
