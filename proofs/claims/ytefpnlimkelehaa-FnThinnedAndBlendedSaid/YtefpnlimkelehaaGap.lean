/- Differences of two ratios, boxes of four cells, a comparison of ratios. -/
import Derived.Test.YtefpnlimkelehaaBlend
import Derived.Laws.StructEq
import Derived.Test.YtefpnlimkelehaaCross
namespace Go.Proofs.Ytefpnlimkelehaa
open Go.RowKit Go.IntWalk

theorem l1Sign_any (w : World) (n : Int) : Calls Try.prog 41 #[.int .i64 n] w fun e w' => e = .returned (.int .i64 (Int.sign n)) ∧ New w w' := by
  by_cases h : n > 0
  · have HS := Lib.hid (Int.sign_eq_one_of_pos h)
    go_enter Try.func41, Try.ntmps41
    go_wp2
    go_ret
    exact ⟨ret_int HS.out.symm, (by repeat (first | with_reducible exact New.refl _ | with_reducible assumption | refine New.drewN ?_ _ | refine New.drew ?_ | refine New.alloc ?_ _ | refine New.setCell ?_ (by first | omega | (simp; omega) | (simp; done)) _ | (refine New.trans ?_ (by assumption))))⟩
  · by_cases h2 : n < 0
    · have HS := Lib.hid (Int.sign_eq_neg_one_of_neg h2)
      go_enter Try.func41, Try.ntmps41
      go_wp2
      go_ret
      exact ⟨ret_int HS.out.symm, (by repeat (first | with_reducible exact New.refl _ | with_reducible assumption | refine New.drewN ?_ _ | refine New.drew ?_ | refine New.alloc ?_ _ | refine New.setCell ?_ (by first | omega | (simp; omega) | (simp; done)) _ | (refine New.trans ?_ (by assumption))))⟩
    · have HS := Lib.hid (show Int.sign n = 0 by rw [show n = 0 by omega]; rfl)
      go_enter Try.func41, Try.ntmps41
      go_wp2
      go_ret
      exact ⟨ret_int HS.out.symm, (by repeat (first | with_reducible exact New.refl _ | with_reducible assumption | refine New.drewN ?_ _ | refine New.drew ?_ | refine New.alloc ?_ _ | refine New.setCell ?_ (by first | omega | (simp; omega) | (simp; done)) _ | (refine New.trans ?_ (by assumption))))⟩
theorem l1AbsN (w : World) (n : Int) (h1 : -4611686018427387904 ≤ n) (h2 : n ≤ 4611686018427387904) : Calls Try.prog 38 #[.int .i64 n] w fun e w' => e = .returned (.int .i64 (n.natAbs : Nat)) ∧ New w w' :=
  (l1Abs_any w n h1 h2).mono fun e w' k => ⟨k.1, by rw [← k.2]; exact New.refl _⟩


/-- A box of four cells that may be written. -/
def Q4 (w : World) (B : Nat) (a b c d : Value) : Prop :=
  (w.cell? ⟨B, 0, none⟩ = some a ∧ w.cell? ⟨B, 1, none⟩ = some b ∧ w.cell? ⟨B, 2, none⟩ = some c ∧ w.cell? ⟨B, 3, none⟩ = some d) ∧
  w.frozen? ⟨B, 0, none⟩ = false ∧ w.frozen? ⟨B, 1, none⟩ = false ∧ w.frozen? ⟨B, 2, none⟩ = false ∧ w.frozen? ⟨B, 3, none⟩ = false
theorem Q4.new {w w' : World} {B : Nat} {a b c d : Value} (h : Q4 w B a b c d) (n : New w w') : Q4 w' B a b c d :=
  ⟨⟨n.cell h.1.1, n.cell h.1.2.1, n.cell h.1.2.2.1, n.cell h.1.2.2.2⟩, n.frz h.1.1 h.2.1, n.frz h.1.2.1 h.2.2.1, n.frz h.1.2.2.1 h.2.2.2.1, n.frz h.1.2.2.2 h.2.2.2.2⟩
theorem Q4.lt {w : World} {B : Nat} {a b c d : Value} (h : Q4 w B a b c d) : B < w.heap.size := World.block_lt_of_cell? _ _ h.1.1
theorem Q4.fresh (w : World) (a b c d : Value) (t : TypeId) : Q4 (w.alloc (.cells #[a, b, c, d] t)) w.heap.size a b c d := ⟨⟨by simp, by simp, by simp, by simp⟩, by simp, by simp, by simp, by simp⟩
theorem Q4.fresh' (w : World) (a b c d : Value) (t : TypeId) (o : Obj) : Q4 ((w.alloc o).alloc (.cells #[a, b, c, d] t)) (w.heap.size + 1) a b c d := by
  have := Q4.fresh (w.alloc o) a b c d t
  simpa only [World.size_alloc] using this
theorem Q4.alloc {w : World} {B : Nat} {a b c d : Value} (h : Q4 w B a b c d) (o : Obj) : Q4 (w.alloc o) B a b c d := h.new ((New.refl w).alloc o)
theorem Q4.drew {w : World} {B : Nat} {a b c d : Value} (h : Q4 w B a b c d) : Q4 w.drew B a b c d := h.new (New.refl w).drew
theorem Q4.set0 {w : World} {B : Nat} {a b c d : Value} (h : Q4 w B a b c d) (x : Value) : Q4 (w.setCell ⟨B, 0, none⟩ x) B x b c d :=
  ⟨⟨set_same h.1.1, by rw [set_other (by simp)]; exact h.1.2.1, by rw [set_other (by simp)]; exact h.1.2.2.1, by rw [set_other (by simp)]; exact h.1.2.2.2⟩,
    (World.frozen?_setCell _ _ _ _).trans h.2.1, (World.frozen?_setCell _ _ _ _).trans h.2.2.1, (World.frozen?_setCell _ _ _ _).trans h.2.2.2.1, (World.frozen?_setCell _ _ _ _).trans h.2.2.2.2⟩
theorem Q4.set1 {w : World} {B : Nat} {a b c d : Value} (h : Q4 w B a b c d) (x : Value) : Q4 (w.setCell ⟨B, 1, none⟩ x) B a x c d :=
  ⟨⟨by rw [set_other (by simp)]; exact h.1.1, set_same h.1.2.1, by rw [set_other (by simp)]; exact h.1.2.2.1, by rw [set_other (by simp)]; exact h.1.2.2.2⟩,
    (World.frozen?_setCell _ _ _ _).trans h.2.1, (World.frozen?_setCell _ _ _ _).trans h.2.2.1, (World.frozen?_setCell _ _ _ _).trans h.2.2.2.1, (World.frozen?_setCell _ _ _ _).trans h.2.2.2.2⟩
theorem Q4.set2 {w : World} {B : Nat} {a b c d : Value} (h : Q4 w B a b c d) (x : Value) : Q4 (w.setCell ⟨B, 2, none⟩ x) B a b x d :=
  ⟨⟨by rw [set_other (by simp)]; exact h.1.1, by rw [set_other (by simp)]; exact h.1.2.1, set_same h.1.2.2.1, by rw [set_other (by simp)]; exact h.1.2.2.2⟩,
    (World.frozen?_setCell _ _ _ _).trans h.2.1, (World.frozen?_setCell _ _ _ _).trans h.2.2.1, (World.frozen?_setCell _ _ _ _).trans h.2.2.2.1, (World.frozen?_setCell _ _ _ _).trans h.2.2.2.2⟩
theorem Q4.set3 {w : World} {B : Nat} {a b c d : Value} (h : Q4 w B a b c d) (x : Value) : Q4 (w.setCell ⟨B, 3, none⟩ x) B a b c x :=
  ⟨⟨by rw [set_other (by simp)]; exact h.1.1, by rw [set_other (by simp)]; exact h.1.2.1, by rw [set_other (by simp)]; exact h.1.2.2.1, set_same h.1.2.2.2⟩,
    (World.frozen?_setCell _ _ _ _).trans h.2.1, (World.frozen?_setCell _ _ _ _).trans h.2.2.1, (World.frozen?_setCell _ _ _ _).trans h.2.2.2.1, (World.frozen?_setCell _ _ _ _).trans h.2.2.2.2⟩
theorem Q4.far {w : World} {B C : Nat} {a b c d : Value} (h : Q4 w B a b c d) (hn : B ≠ C) (i : Nat) (x : Value) : Q4 (w.setCell ⟨C, i, none⟩ x) B a b c d :=
  ⟨⟨World.cell_set h.1.1 hn, World.cell_set h.1.2.1 hn, World.cell_set h.1.2.2.1 hn, World.cell_set h.1.2.2.2 hn⟩,
    (World.frozen?_setCell _ _ _ _).trans h.2.1, (World.frozen?_setCell _ _ _ _).trans h.2.2.1, (World.frozen?_setCell _ _ _ _).trans h.2.2.2.1, (World.frozen?_setCell _ _ _ _).trans h.2.2.2.2⟩
theorem New.four {W W' : World} {a b c d : Value} {t : TypeId} (h : New (W.alloc (.cells #[a, b, c, d] t)) W') : Q4 W' W.heap.size a b c d := (Q4.fresh W a b c d t).new h
theorem New.four2 {W W' : World} {a b c d a' b' c' d' : Value} {t t' : TypeId} (h : New ((W.alloc (.cells #[a, b, c, d] t)).alloc (.cells #[a', b', c', d'] t')) W') : Q4 W' W.heap.size a b c d ∧ Q4 W' (W.heap.size + 1) a' b' c' d' :=
  ⟨((Q4.fresh W a b c d t).alloc _).new h, (Q4.fresh' W a' b' c' d' t' _).new h⟩
/-- Two boxes of four cells, made since W0. -/
def CutTwo (W0 : World) (a b c d a' b' c' d' p q : Value) (W : World) : Prop :=
  ∃ B C, p = .pointer (some ⟨B, 0, none⟩) ∧ q = .pointer (some ⟨C, 0, none⟩) ∧ New W0 W ∧ W0.heap.size ≤ B ∧ W0.heap.size ≤ C ∧ Q4 W B a b c d ∧ Q4 W C a' b' c' d'
theorem sign_same {a b : Int} (ha : 0 < a.natAbs) (hb : 0 < b.natAbs) : (-1 ≤ a.sign * b.sign ∧ a.sign * b.sign ≤ 1) ∧ (0 < a.sign * b.sign ↔ (decide (a < 0) == decide (b < 0)) = true) := by
  rcases Int.lt_trichotomy a 0 with h | h | h
  · rcases Int.lt_trichotomy b 0 with k | k | k
    · rw [Int.sign_eq_neg_one_of_neg h, Int.sign_eq_neg_one_of_neg k, decide_eq_true h, decide_eq_true k]; decide
    · omega
    · rw [Int.sign_eq_neg_one_of_neg h, Int.sign_eq_one_of_pos k, decide_eq_true h, decide_eq_false (show ¬ b < 0 by omega)]; decide
  · omega
  · rcases Int.lt_trichotomy b 0 with k | k | k
    · rw [Int.sign_eq_one_of_pos h, Int.sign_eq_neg_one_of_neg k, decide_eq_false (show ¬ a < 0 by omega), decide_eq_true k]; decide
    · omega
    · rw [Int.sign_eq_one_of_pos h, Int.sign_eq_one_of_pos k, decide_eq_false (show ¬ a < 0 by omega), decide_eq_false (show ¬ b < 0 by omega)]; decide

set_option maxRecDepth 100000 in
set_option maxHeartbeats 2000000 in
theorem saGap_any (w : World) (a b c d : Int) (h1 : -1000000000000000000 ≤ a * d) (h2 : a * d ≤ 1000000000000000000) (h3 : -1000000000000000000 ≤ c * b) (h4 : c * b ≤ 1000000000000000000) :
    Calls Try.prog 31 #[ratV (a, b), ratV (c, d)] w fun e w' => e = .returned (pairV (Int.sign (a * d - c * b)) ((a * d - c * b).natAbs : Nat) b d) ∧ New w w' := by
  go_enter Try.func31, Try.ntmps31
  go_upto_region 2 with fail
  obtain ⟨v0, hv0⟩ : ∃ xx : World, xx = (((w.alloc (.cells #[.int .i64 a, .int .i64 b] 27)).alloc (.cells #[.int .i64 c, .int .i64 d] 27)).alloc (.cells #[.int .i64 0, .int .i64 0, .int .i64 0, .int .i64 0] 60)) := ⟨_, rfl⟩
  rw [← hv0]
  have l0_v0 : v0.cell? ⟨w.heap.size, 0, none⟩ = some (.int .i64 a) := by rw [hv0]; simp [go_sem]
  have l1_v0 : v0.cell? ⟨w.heap.size, 1, none⟩ = some (.int .i64 b) := by rw [hv0]; simp [go_sem]
  have m0_v0 : v0.cell? ⟨w.heap.size + 1, 0, none⟩ = some (.int .i64 c) := by rw [hv0]; simp [go_sem]
  have m1_v0 : v0.cell? ⟨w.heap.size + 1, 1, none⟩ = some (.int .i64 d) := by rw [hv0]; simp [go_sem]
  have r0_v0 : v0.cell? ⟨w.heap.size + 1 + 1, 0, none⟩ = some (.int .i64 0) := by rw [hv0]; simp [go_sem]
  have zr0_v0 : v0.frozen? ⟨w.heap.size + 1 + 1, 0, none⟩ = false := by rw [hv0]; simp [go_sem]
  have r1_v0 : v0.cell? ⟨w.heap.size + 1 + 1, 1, none⟩ = some (.int .i64 0) := by rw [hv0]; simp [go_sem]
  have zr1_v0 : v0.frozen? ⟨w.heap.size + 1 + 1, 1, none⟩ = false := by rw [hv0]; simp [go_sem]
  have r2_v0 : v0.cell? ⟨w.heap.size + 1 + 1, 2, none⟩ = some (.int .i64 0) := by rw [hv0]; simp [go_sem]
  have zr2_v0 : v0.frozen? ⟨w.heap.size + 1 + 1, 2, none⟩ = false := by rw [hv0]; simp [go_sem]
  have r3_v0 : v0.cell? ⟨w.heap.size + 1 + 1, 3, none⟩ = some (.int .i64 0) := by rw [hv0]; simp [go_sem]
  have zr3_v0 : v0.frozen? ⟨w.heap.size + 1 + 1, 3, none⟩ = false := by rw [hv0]; simp [go_sem]
  have N0 := Lib.hid (show New w v0 by rw [hv0]; exact (by repeat (first | with_reducible exact New.refl _ | with_reducible assumption | refine New.drewN ?_ _ | refine New.drew ?_ | refine New.alloc ?_ _ | refine New.setCell ?_ (by first | omega | (simp; omega) | (simp; done)) _ | (refine New.trans ?_ (by assumption)))))
  have zv0 : w.heap.size + 1 + 1 < v0.heap.size := by rw [hv0]; simp
  clear hv0
  have b1 : -4611686018427387904 ≤ a * d - c * b := by omega
  have b2 : a * d - c * b ≤ 4611686018427387904 := by omega
  obtain ⟨n, hn⟩ : ∃ n, n = a * d - c * b := ⟨_, rfl⟩
  rw [← hn] at b1 b2 ⊢
  have HN := Lib.hid hn; clear hn
  obtain ⟨s, hs⟩ : ∃ s, s = Int.sign n := ⟨_, rfl⟩
  obtain ⟨z, hz⟩ : ∃ z, z = n.natAbs := ⟨_, rfl⟩
  have HS := Lib.hid hs.symm; have HZ := Lib.hid hz.symm; clear hs hz
  go_region_held3 (fun w' => w'.cell? ⟨w.heap.size, 1, none⟩ = some (.int .i64 b) ∧ w'.cell? ⟨w.heap.size + 1, 1, none⟩ = some (.int .i64 d))
    (first | with_reducible exact ⟨l1_v0, m1_v0⟩ | with_reducible exact ⟨l1_u1, m1_u1⟩ | with_reducible exact ⟨l1_u2, m1_u2⟩ | with_reducible exact ⟨World.cell_set (World.cell_set (World.cell_set (World.cell_set (l1_u2) (by simp; try omega)) (by simp; try omega)) (by simp; try omega)) (by simp; try omega), World.cell_set (World.cell_set (World.cell_set (World.cell_set (m1_u2) (by simp; try omega)) (by simp; try omega)) (by simp; try omega)) (by simp; try omega)⟩ | exact ⟨l1_v0, m1_v0⟩ | fail)
    (first
      | (go_at_call 41; refine (l1Sign_any _ n).mono ?_; rintro e u1 ⟨rfl, n_u1⟩; (try replace n_u1 := New.undrew n_u1); have l0_u1 : u1.cell? ⟨w.heap.size, 0, none⟩ = some (.int .i64 a) := n_u1.cell l0_v0; have l1_u1 : u1.cell? ⟨w.heap.size, 1, none⟩ = some (.int .i64 b) := n_u1.cell l1_v0; have m0_u1 : u1.cell? ⟨w.heap.size + 1, 0, none⟩ = some (.int .i64 c) := n_u1.cell m0_v0; have m1_u1 : u1.cell? ⟨w.heap.size + 1, 1, none⟩ = some (.int .i64 d) := n_u1.cell m1_v0; have r0_u1 : u1.cell? ⟨w.heap.size + 1 + 1, 0, none⟩ = some (.int .i64 0) := n_u1.cell r0_v0; have zr0_u1 : u1.frozen? ⟨w.heap.size + 1 + 1, 0, none⟩ = false := n_u1.frz r0_v0 zr0_v0; have r1_u1 : u1.cell? ⟨w.heap.size + 1 + 1, 1, none⟩ = some (.int .i64 0) := n_u1.cell r1_v0; have zr1_u1 : u1.frozen? ⟨w.heap.size + 1 + 1, 1, none⟩ = false := n_u1.frz r1_v0 zr1_v0; have r2_u1 : u1.cell? ⟨w.heap.size + 1 + 1, 2, none⟩ = some (.int .i64 0) := n_u1.cell r2_v0; have zr2_u1 : u1.frozen? ⟨w.heap.size + 1 + 1, 2, none⟩ = false := n_u1.frz r2_v0 zr2_v0; have r3_u1 : u1.cell? ⟨w.heap.size + 1 + 1, 3, none⟩ = some (.int .i64 0) := n_u1.cell r3_v0; have zr3_u1 : u1.frozen? ⟨w.heap.size + 1 + 1, 3, none⟩ = false := n_u1.frz r3_v0 zr3_v0; rw [HS.out]; skip)
      | (go_at_call 38; refine (l1AbsN _ n b1 b2).mono ?_; rintro e u2 ⟨rfl, n_u2⟩; (try replace n_u2 := New.undrew n_u2); have l0_u2 : u2.cell? ⟨w.heap.size, 0, none⟩ = some (.int .i64 a) := n_u2.cell l0_u1; have l1_u2 : u2.cell? ⟨w.heap.size, 1, none⟩ = some (.int .i64 b) := n_u2.cell l1_u1; have m0_u2 : u2.cell? ⟨w.heap.size + 1, 0, none⟩ = some (.int .i64 c) := n_u2.cell m0_u1; have m1_u2 : u2.cell? ⟨w.heap.size + 1, 1, none⟩ = some (.int .i64 d) := n_u2.cell m1_u1; have r0_u2 : u2.cell? ⟨w.heap.size + 1 + 1, 0, none⟩ = some (.int .i64 0) := n_u2.cell r0_u1; have zr0_u2 : u2.frozen? ⟨w.heap.size + 1 + 1, 0, none⟩ = false := n_u2.frz r0_u1 zr0_u1; have r1_u2 : u2.cell? ⟨w.heap.size + 1 + 1, 1, none⟩ = some (.int .i64 0) := n_u2.cell r1_u1; have zr1_u2 : u2.frozen? ⟨w.heap.size + 1 + 1, 1, none⟩ = false := n_u2.frz r1_u1 zr1_u1; have r2_u2 : u2.cell? ⟨w.heap.size + 1 + 1, 2, none⟩ = some (.int .i64 0) := n_u2.cell r2_u1; have zr2_u2 : u2.frozen? ⟨w.heap.size + 1 + 1, 2, none⟩ = false := n_u2.frz r2_u1 zr2_u1; have r3_u2 : u2.cell? ⟨w.heap.size + 1 + 1, 3, none⟩ = some (.int .i64 0) := n_u2.cell r3_u1; have zr3_u2 : u2.frozen? ⟨w.heap.size + 1 + 1, 3, none⟩ = false := n_u2.frz r3_u1 zr3_u1; rw [HZ.out]; skip))
  have K_u1 := Lib.hid (show New v0 u1 from n_u1); clear n_u1
  have K_u2 := Lib.hid (show New u1 u2 from n_u2); clear n_u2
  go_wp2
  refine bodyPost_ret (v := pairV s (z : Nat) b d) (by simp [results, Try.results31, go_sem, r0_u2, r1_u2, r2_u2, r3_u2]) rfl ⟨by rw [← HN.out, HS.out, HZ.out], ?_⟩
  have := ((N0.out.trans K_u1.out).trans K_u2.out)
  (repeat (first | with_reducible exact New.refl _ | with_reducible assumption | refine New.drewN ?_ _ | refine New.drew ?_ | refine New.alloc ?_ _ | refine New.setCell ?_ (by first | omega | (simp; omega) | (simp; done)) _ | (refine New.trans ?_ (by assumption))))

theorem wpList_value_as {P : Program} {ops : Array Oper} {rest : List Oper} {o : Oper} {a : Act} {w : World} {Q : Exit → Act → World → Prop} (hgd : o.guard = none) (v : Value) (hr : (execOp a.eval o).run P w = .ok (.value v) w)
    (h : wpList P ops Q rest (a.put o.dst v) w) : wpList P ops Q (o :: rest) a w :=
  wpList_plain hgd fun _ hK => by
    unfold Oper.wp
    simp only [hr]
    exact hK _ _ h


theorem run_eq_ratio (w : World) (d : Nat) (a b : Int × Int) : (Op.equalIn (d + 2) 27 (ratV a) (ratV b)).run Try.prog w = .ok (decide (a = b)) w := by
  obtain ⟨a0, a1⟩ := a
  obtain ⟨b0, b1⟩ := b
  rw [run_equalIn_agg w (d + 1) 27 _ _ (by kernel_rfl) (by kernel_rfl)]
  by_cases h0 : a0 = b0
  · by_cases h1 : a1 = b1
    · subst h0 h1
      simp [go_sem]
    · subst h0
      simp [go_sem, h1]
  · simp [go_sem, h0]
theorem exec_eql_ratio {o : Oper} {a : Act} {w : World} (x y : Operand) (ho : o.op = .binOp .eql 27 x y 27) (p q : Int × Int) (hx : a.eval x = ratV p) (hy : a.eval y = ratV q) (b : Bool) (hb : decide (p = q) = b) :
    (execOp a.eval o).run Try.prog w = .ok (.value (.bool b)) w := by
  subst hb
  have h1 := run_eqGuard_agg (P := Try.prog) w .eql 27 x y #[.int .i64 p.1, .int .i64 p.2] #[.int .i64 q.1, .int .i64 q.2] (by kernel_rfl)
  have h2 := run_eql_struct (P := Try.prog) w 27 #[.int .i64 p.1, .int .i64 p.2] #[.int .i64 q.1, .int .i64 q.2]
  have h3 := run_eq_ratio w 9998 p q
  simp [execOp, ho, hx, hy, h1, h2, h3]
end Go.Proofs.Ytefpnlimkelehaa
