/- The contract of levels: the levels of a clock, heard from a goroutine. -/
import Derived.Test.YtnahlemchajfdaaMtQ
import Derived.Test.YtnahlemchajfdaaLev
namespace Go.Proofs.Ytnahlemchajfdaa
open Go.Conc Go.RowKit Go.IntWalk Go.Proofs.Ytnahlemchajfdaa.Meta

theorem nx_eq {D x : Int} (h0 : 0 ≤ x) (h2 : 1 ≤ D) : nx D x = x - qUp x D := by
  unfold nx qUp
  rw [Int.tdiv_eq_ediv_of_nonneg (by omega)]
theorem up_of {D x : Int} (h0 : 0 < x) (h1 : x ≤ 1000) (h2 : 1 ≤ D) (h3 : D ≤ 100) : Up x D ∧ nx D x < x := by
  have q := qUp_bd (a := x) (b := D) (by omega) h2
  have qp := qUp_pos (a := x) (b := D) (by omega) h2
  have e : (x + D - 1).tdiv D = qUp x D := by unfold qUp; rw [Int.tdiv_eq_ediv_of_nonneg (by omega)]
  refine ⟨⟨i64_in _ (by omega), i64_in _ (by omega), by omega, by rw [e]; exact i64_in _ (by omega), by rw [e]; exact i64_in _ (by omega)⟩, ?_⟩
  rw [nx_eq (by omega) h2]
  omega
theorem levK_shift (D s : Int) : ∀ k, levK D (s - qUp s D) k = levK D s (k + 1) := by
  intro k
  induction k with
  | zero => rfl
  | succ k ih =>
    show levK D (s - qUp s D) k - qUp (levK D (s - qUp s D) k) D = levK D s (k + 1) - qUp (levK D s (k + 1)) D
    rw [ih]
theorem dli_eq {D : Int} (h2 : 1 ≤ D) : ∀ (n : Nat) (s : Int), 0 ≤ s → s.toNat ≤ n → dli D n s = (List.range (tim D s)).map fun k => levK D s (k + 1) := by
  intro n
  induction n with
  | zero =>
    intro s h0 hn
    obtain rfl : s = 0 := by omega
    simp [dli, tim_zero]
  | succ n ih =>
    intro s h0 hn
    by_cases hs : 0 < s
    · have q := qUp_bd (a := s) (b := D) (by omega) h2
      have qp := qUp_pos (a := s) (b := D) (by omega) h2
      simp only [dli, if_pos hs, nx_eq h0 h2]
      rw [ih (s - qUp s D) (by omega) (by omega), tim_step (L := s) h2 (by omega), List.range_succ_eq_map, List.map_cons, List.map_map]
      congr 1
      refine List.map_congr_left fun k _ => ?_
      exact levK_shift D s (k + 1)
    · obtain rfl : s = 0 := by omega
      simp [dli, tim_zero]
theorem levL_eq {D L : Int} (h2 : 1 ≤ D) (h0 : 0 ≤ L) : L :: dli D L.toNat L = levL D L := by
  rw [dli_eq h2 _ _ h0 (Nat.le_refl _)]
  unfold levL levTo
  rw [List.range_succ_eq_map, List.map_cons, List.map_map]
  rfl

set_option maxHeartbeats 4000000 in
theorem levels_any (w : World) (L D : Int) (h0 : 0 ≤ L) (h1 : L ≤ 1000) (h2 : 1 ≤ D) (h3 : D ≤ 100) :
    CallsC Try.prog 32 #[.agg #[.int .i64 L, .int .i64 D]] w fun v w' => TicksPost w (levL D L) v w' := by
  refine CallsC.of_body Try.func32 rfl fun Stop cf rest hn hnext => ?_
  refine gc_act (a' := ⟨#[.agg #[.int .i64 L, .int .i64 D], undef, undef, undef, undef, undef, undef], []⟩) (by simp only [Try.ntmps32, List.size_toArray, List.length_cons, List.length_nil, Nat.reduceAdd, Nat.reduceSub, Array.replicate_succ, Array.replicate_zero, List.push_toArray, List.append_toArray, List.nil_append, List.cons_append]) ?_
  refine gc_seq (gc_region ?_)
  refine gc_new (w1 := w.alloc (.cells #[.int .i64 L, .int .i64 D] 24)) (v := .pointer (some ⟨w.heap.size, 0, none⟩)) rfl (by rfl) rfl (by rfl) hn (by intro τ d; simp [execOp, go_sem]; exact ⟨rfl, rfl⟩) fun hn1 => ?_
  refine gc_act (a' := ⟨#[.agg #[.int .i64 L, .int .i64 D], .pointer (some ⟨w.heap.size, 0, none⟩), undef, undef, undef, undef, undef], []⟩) rfl ?_
  refine gc_assign rfl (by rfl) rfl hn1 rfl ?_
  refine gc_act (a' := ⟨#[.agg #[.int .i64 L, .int .i64 D], .pointer (some ⟨w.heap.size, 0, none⟩), .slice none 0 0, undef, undef, undef, undef], []⟩) rfl ?_
  have q0 : (w.alloc (.cells #[.int .i64 L, .int .i64 D] 24)).cell? ⟨w.heap.size, 0, none⟩ = some (.int .i64 L) := by simp
  have q1 : (w.alloc (.cells #[.int .i64 L, .int .i64 D] 24)).cell? ⟨w.heap.size, 1, none⟩ = some (.int .i64 D) := by simp
  have z1 : (w.alloc (.cells #[.int .i64 L, .int .i64 D] 24)).heap.size = w.heap.size + 1 := by simp
  have o1 : ∀ k, k < w.heap.size → (w.alloc (.cells #[.int .i64 L, .int .i64 D] 24)).heap[k]? = w.heap[k]? := fun k hk => alloc_old hk
  generalize w.alloc (.cells #[.int .i64 L, .int .i64 D] 24) = w1 at hn1 q0 q1 z1 o1 ⊢
  refine gc_nil (gc_seq (gc_region ?_))
  refine gc_val (v := .pointer (some ⟨w.heap.size, 0, none⟩)) rfl (by rfl) rfl (by rfl) hn1 (by intro τ d; simp [execOp, go_sem]) ?_
  refine gc_act (a' := ⟨#[.agg #[.int .i64 L, .int .i64 D], .pointer (some ⟨w.heap.size, 0, none⟩), .slice none 0 0, .pointer (some ⟨w.heap.size, 0, none⟩), undef, undef, undef], []⟩) rfl ?_
  refine gc_val (v := .int .i64 (L)) rfl (by rfl) rfl (by rfl) hn1 (by intro τ d; have q : (Meta.wt w1 τ d).cell? ⟨w.heap.size, 0, none⟩ = some (.int .i64 L) := q0; simp [execOp, go_sem, q]) ?_
  refine gc_act (a' := ⟨#[.agg #[.int .i64 L, .int .i64 D], .pointer (some ⟨w.heap.size, 0, none⟩), .slice none 0 0, .pointer (some ⟨w.heap.size, 0, none⟩), .int .i64 (L), undef, undef], []⟩) rfl ?_
  refine gc_val (v := .func (.func 41) #[] #[.pointer (some ⟨w.heap.size, 0, none⟩)]) rfl (by rfl) rfl (by rfl) hn1 (by intro τ d; simp [execOp, go_sem]) ?_
  refine gc_act (a' := ⟨#[.agg #[.int .i64 L, .int .i64 D], .pointer (some ⟨w.heap.size, 0, none⟩), .slice none 0 0, .pointer (some ⟨w.heap.size, 0, none⟩), .int .i64 (L), .func (.func 41) #[] #[.pointer (some ⟨w.heap.size, 0, none⟩)], undef], []⟩) rfl ?_
  refine gc_call rfl (by rfl) rfl rfl Try.func40 (by rfl) rfl hn1 (Post := TicksPost w1 (L :: dli D L.toNat L)) ?_ fun v w2 hp hn2 => ?_
  · have hh : Array.map (Act.eval ⟨#[.agg #[.int .i64 L, .int .i64 D], .pointer (some ⟨w.heap.size, 0, none⟩), .slice none 0 0, .pointer (some ⟨w.heap.size, 0, none⟩), .int .i64 (L), .func (.func 41) #[] #[.pointer (some ⟨w.heap.size, 0, none⟩)], undef], []⟩) #[Operand.tmp 4, Operand.tmp 5, Operand.func 43] = #[.int .i64 L, .func (.func 41) #[] #[.pointer (some ⟨w.heap.size, 0, none⟩)], .func (.func 43) #[] #[]] := by simp [Act.eval]
    rw [hh]
    refine ticks_any q1 (Nat.le_refl _) (fun x hx hx1 => up_of hx (by omega) h2 h3) ?_
    have hl := congrArg List.length (levL_eq h2 h0)
    have ht := tim_le h2 1000 L h0 h1
    rw [show (levL D L).length = tim D L + 1 from levTo_length _ _ _] at hl
    simp only [List.length_cons] at hl
    omega
  refine gc_act (a' := ⟨#[.agg #[.int .i64 L, .int .i64 D], .pointer (some ⟨w.heap.size, 0, none⟩), .slice none 0 0, .pointer (some ⟨w.heap.size, 0, none⟩), .int .i64 (L), .func (.func 41) #[] #[.pointer (some ⟨w.heap.size, 0, none⟩)], v], []⟩) rfl ?_
  refine gc_assign rfl (by rfl) rfl hn2 rfl ?_
  refine gc_act (a' := ⟨#[.agg #[.int .i64 L, .int .i64 D], .pointer (some ⟨w.heap.size, 0, none⟩), v, .pointer (some ⟨w.heap.size, 0, none⟩), .int .i64 (L), .func (.func 41) #[] #[.pointer (some ⟨w.heap.size, 0, none⟩)], v], []⟩) rfl ?_
  refine gc_nil (gc_ret fun todo => ?_)
  refine gc_leave rfl Try.func32 rfl (fun τ d => results_tmp (t := 2) rfl _ _ _) (hnext v w2 ?_ hn2)
  rw [← levL_eq h2 h0]
  exact ⟨ownsRow_base' hp.own (by omega), fun k hk => (hp.old k (by omega)).trans (o1 k hk), by have := hp.sz; omega⟩
end Go.Proofs.Ytnahlemchajfdaa
