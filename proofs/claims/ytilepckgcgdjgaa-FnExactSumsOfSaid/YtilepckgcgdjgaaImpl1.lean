/- The program's functions of chapter 1, up to one move. -/
import Derived.Test.YtilepckgcgdjgaaModel
import Derived.Deep.RegionHeld3
import Derived.Deep.DeepCutAuto
import Derived.Deep.MidRow
import Derived.Deep.DeepMust
namespace Go.Proofs.Ytilepckgcgdjgaa
open Go.RowKit

/-- What vessels hold, as an array of five. -/
abbrev holdV (H : List Int) : Value := .agg #[.int .i64 (H[0]?.getD 0), .int .i64 (H[1]?.getD 0), .int .i64 (H[2]?.getD 0), .int .i64 (H[3]?.getD 0), .int .i64 (H[4]?.getD 0)]

/-- A box that holds such an array. -/
structure Box5 (W : World) (B : Nat) (H : List Int) : Prop where
  lt : B < W.heap.size
  cell : ∀ k, k < 5 → W.cell? ⟨B, k, none⟩ = some (.int .i64 (H[k]?.getD 0))
  frozen : ∀ k, W.frozen? ⟨B, k, none⟩ = false
theorem Box5.made (w : World) (H : List Int) (t : TypeId) :
    Box5 (w.alloc (.cells #[.int .i64 (H[0]?.getD 0), .int .i64 (H[1]?.getD 0), .int .i64 (H[2]?.getD 0), .int .i64 (H[3]?.getD 0), .int .i64 (H[4]?.getD 0)] t)) w.heap.size H where
  lt := by simp
  cell := by
    intro k hk
    rw [World.cell?_alloc_new]
    match k, hk with
    | 0, _ => rfl
    | 1, _ => rfl
    | 2, _ => rfl
    | 3, _ => rfl
    | 4, _ => rfl
  frozen := fun k => by simp only [World.frozen?_alloc_new]
theorem Box5.new {W W' : World} {B : Nat} {H : List Int} (h : Box5 W B H) (k : New W W') : Box5 W' B H :=
  ⟨Nat.lt_of_lt_of_le h.lt k.size, fun i hi => k.cell (h.cell i hi), fun i => (Below.frozen (p := ⟨B, i, none⟩) k h.lt).trans (h.frozen i)⟩

theorem Box5.set {W : World} {B : Nat} {H : List Int} (h : Box5 W B H) {j : Nat} (hj : j < 5) (hj' : j < H.length) (z : Int) : Box5 (W.setCell ⟨B, j, none⟩ (.int .i64 z)) B (H.set j z) where
  lt := by simpa using h.lt
  cell := by
    intro k hk
    by_cases e : j = k
    · subst e
      rw [set_same (h.cell j hj)]
      simp [hj']
    · rw [set_other (fun h => e (by cases h; rfl)), h.cell k hk, List.getElem?_set, if_neg e]
  frozen := fun k => by rw [World.frozen?_setCell]; exact h.frozen k
theorem Box5.setOther {W : World} {B : Nat} {H : List Int} (h : Box5 W B H) {p : Addr} (hp : p.block ≠ B) (u : Value) : Box5 (W.setCell p u) B H where
  lt := by simpa using h.lt
  cell := fun k hk => World.cell_set (h.cell k hk) (fun e => hp e.symm)
  frozen := fun k => by rw [World.frozen?_setCell]; exact h.frozen k
theorem Box5.five {W : World} {B : Nat} {H : List Int} (h : Box5 W B H) :
    W.cell? ⟨B, 0, none⟩ = some (.int .i64 (H[0]?.getD 0)) ∧ W.cell? ⟨B, 1, none⟩ = some (.int .i64 (H[1]?.getD 0)) ∧ W.cell? ⟨B, 2, none⟩ = some (.int .i64 (H[2]?.getD 0)) ∧ W.cell? ⟨B, 3, none⟩ = some (.int .i64 (H[3]?.getD 0)) ∧ W.cell? ⟨B, 4, none⟩ = some (.int .i64 (H[4]?.getD 0)) :=
  ⟨h.cell 0 (by omega), h.cell 1 (by omega), h.cell 2 (by omega), h.cell 3 (by omega), h.cell 4 (by omega)⟩
theorem Box5.warm {W : World} {B : Nat} {H : List Int} (h : Box5 W B H) :
    W.frozen? ⟨B, 0, none⟩ = false ∧ W.frozen? ⟨B, 1, none⟩ = false ∧ W.frozen? ⟨B, 2, none⟩ = false ∧ W.frozen? ⟨B, 3, none⟩ = false ∧ W.frozen? ⟨B, 4, none⟩ = false :=
  ⟨h.frozen _, h.frozen _, h.frozen _, h.frozen _, h.frozen _⟩

theorem amountIn_any (w : World) (aa : Option Addr) (n ca : Nat) (S H : List Int) (f t : Int) (h1 : Ints w aa n ca S) (hg : Good S H) (hmv : MoveOk S.length f t) :
    Calls Try.prog 78 #[.slice aa n ca, holdV H, .agg #[.int .i64 f, .int .i64 t]] w fun e w' => e = .returned (.int .i64 (amt S H f t)) ∧ New w w' := by
  have HA := Lib.hid h1; clear h1
  have hn := HA.out.len
  have hl := hg.1
  have hl2 := hg.2.1
  have p1 : n ≤ 5 := by omega
  obtain ⟨W, hW⟩ : ∃ W, W = (w.alloc (.cells #[.int .i64 (H[0]?.getD 0), .int .i64 (H[1]?.getD 0), .int .i64 (H[2]?.getD 0), .int .i64 (H[3]?.getD 0), .int .i64 (H[4]?.getD 0)] 67)).alloc (.cells #[.int .i64 f, .int .i64 t] 77) := ⟨_, rfl⟩
  have nW : New w W := by rw [hW]; exact (by repeat (first | with_reducible exact New.refl _ | with_reducible assumption | refine New.drewN ?_ _ | refine New.drew ?_ | refine New.alloc ?_ _ | refine New.setCell ?_ (by first | omega | (simp; omega) | (simp; done)) _ | (refine New.trans ?_ (by assumption))))
  have bW : Box5 W w.heap.size H := by rw [hW]; exact (Box5.made w H _).new (by repeat (first | with_reducible exact New.refl _ | with_reducible assumption | refine New.drewN ?_ _ | refine New.drew ?_ | refine New.alloc ?_ _ | refine New.setCell ?_ (by first | omega | (simp; omega) | (simp; done)) _ | (refine New.trans ?_ (by assumption))))
  have e0 : W.cell? ⟨w.heap.size + 1, 0, none⟩ = some (.int .i64 f) := by rw [hW]; simp [go_sem]
  have e1 : W.cell? ⟨w.heap.size + 1, 1, none⟩ = some (.int .i64 t) := by rw [hW]; simp [go_sem]
  have HW := Lib.hid hW; clear hW
  have HN := Lib.hid nW; clear nW
  have HB := Lib.hid bW; clear bW
  rcases hmv.parts with ⟨rfl, j, rfl, hj⟩ | ⟨rfl, i, rfl, hi⟩ | ⟨i, j, rfl, rfl, hi, hj, hij⟩
  · have q1 : j < n := by omega
    have q2 : j < 5 := by omega
    obtain ⟨v0, v1, v2, v3⟩ := hg.at hj
    obtain ⟨ba, oa, rfl, ga, la⟩ := (HA.out.new HN.out).at q1
    have gb := HB.out.cell j q2
    have HE := Lib.hid (amt_in S H j)
    clear hn hl hl2 hg hmv hj
    go_enter Try.func78, Try.ntmps78
    go_upto_region 1 with fail
    rw [← HW.out]
    go_wp2
    go_quiet (fail)
    go_wp2
    (try rw [Exit.noGoto_ret])
    go_ret
    exact ⟨ret_int (by rw [HE.out]), New.drewN HN.out _⟩
  · have q1 : i < 5 := by omega
    have gb := HB.out.cell i q1
    have HE := Lib.hid (amt_out S H i)
    clear hn hl hl2 hg hmv hi
    go_enter Try.func78, Try.ntmps78
    go_upto_region 1 with fail
    rw [← HW.out]
    go_wp2
    (try rw [Exit.noGoto_ret])
    go_ret
    exact ⟨ret_int (by rw [HE.out]), HN.out⟩
  · have q1 : i < 5 := by omega
    have q2 : j < 5 := by omega
    have q3 : j < n := by omega
    obtain ⟨v0, v1, v2, v3⟩ := hg.at hj
    obtain ⟨u0, u1, u2, u3⟩ := hg.at hi
    obtain ⟨ba, oa, rfl, ga, la⟩ := (HA.out.new HN.out).at q3
    have gb := HB.out.cell j q2
    have gc := HB.out.cell i q1
    have HE := Lib.hid (amt_mid S H i j)
    clear hn hl hl2 hg hmv hj hi hij
    go_enter Try.func78, Try.ntmps78
    go_upto_region 1 with fail
    rw [← HW.out]
    go_wp2
    go_quiet (fail)
    go_wp2
    all_goals
      (try rw [Exit.noGoto_ret])
      go_ret
      exact ⟨ret_int (by rw [HE.out]; omega), New.drewN HN.out _⟩

/-- The five cells, as a list. -/
abbrev cells5 (H : List Int) : List Value := [.int .i64 (H[0]?.getD 0), .int .i64 (H[1]?.getD 0), .int .i64 (H[2]?.getD 0), .int .i64 (H[3]?.getD 0), .int .i64 (H[4]?.getD 0)]
theorem Box5.range {W : World} {B : Nat} {H : List Int} (h : Box5 W B H) : W.rangeAt B 0 (cells5 H) := by
  intro j v hv
  obtain ⟨c0, c1, c2, c3, c4⟩ := h.five
  match j, hv with
  | 0, hv => simp at hv; subst hv; simpa using c0
  | 1, hv => simp at hv; subst hv; simpa using c1
  | 2, hv => simp at hv; subst hv; simpa using c2
  | 3, hv => simp at hv; subst hv; simpa using c3
  | 4, hv => simp at hv; subst hv; simpa using c4
  | k + 5, hv => simp at hv
theorem Box5.there {W : World} {B : Nat} {H : List Int} (h : Box5 W B H) : W.there B 0 5 := fun j hj =>
  ⟨by rw [Nat.zero_add, h.cell j hj]; rfl, by rw [Nat.zero_add]; exact h.frozen j⟩
theorem Box5.room {W : World} {B : Nat} {H : List Int} (h : Box5 W B H) (L : List Int) : W.there B 0 (cells5 L).toArray.size := h.there
theorem cells5_one (L : List Int) : ((cells5 L).toArray.all fun x => x.oneCell') = true :=
  all_oneCell_toArray (by intro v hv; simp at hv; rcases hv with rfl | rfl | rfl | rfl | rfl <;> rfl)
theorem Box5.fill {W : World} {B : Nat} {L : List Int} (h : Box5 W B L) (H : List Int) : Box5 (W.setCells B 0 (cells5 H)) B H where
  lt := by
    have := h.lt
    simpa [World.setCells] using this
  cell := by
    intro k hk
    have hr := World.rangeAt_setCells_same W B 0 (cells5 H) h.there
    have := hr k (.int .i64 (H[k]?.getD 0)) (by
      match k, hk with
      | 0, _ => rfl
      | 1, _ => rfl
      | 2, _ => rfl
      | 3, _ => rfl
      | 4, _ => rfl)
    simpa using this
  frozen := fun k => by rw [World.frozen?_setCells]; exact h.frozen k
theorem New.setCells {a b : World} (h : New a b) {B : Nat} (hB : a.heap.size ≤ B) : ∀ (vs : List Value) (o : Nat), New a (b.setCells B o vs) := by
  intro vs
  induction vs generalizing b with
  | nil => intro o; exact h
  | cons v r ih => intro o; exact ih (h.setCell hB _) (o + 1)

theorem res_pour {tmps : Array Value} {W : World} {R : Nat} {H : List Int} (ht : tmps[6]?.getD undef = .pointer (some ⟨R, 0, none⟩)) (h : Box5 W R H) : (results Try.f79 tmps).run Try.prog W = .ok (holdV H) W := by
  obtain ⟨c0, c1, c2, c3, c4⟩ := h.five
  simp [results, Try.results79, go_sem, ht, c0, c1, c2, c3, c4]

set_option maxHeartbeats 1000000 in
theorem pour_any (w : World) (aa : Option Addr) (n ca : Nat) (S H : List Int) (f t : Int) (h1 : Ints w aa n ca S) (hg : Good S H) (hmv : MoveOk S.length f t) :
    Calls Try.prog 79 #[.slice aa n ca, holdV H, .agg #[.int .i64 f, .int .i64 t]] w fun e w' => e = .returned (holdV (poured S H f t)) ∧ New w w' := by
  have HA := Lib.hid h1; clear h1
  have hn := HA.out.len
  have hl := hg.1
  have hl2 := hg.2.1
  obtain ⟨a0, a1⟩ := amt_bd hg hmv
  have HL := Lib.hid (And.intro hn (And.intro hl hl2)); clear hn hl hl2
  have HG := Lib.hid hg; clear hg
  have HM := Lib.hid hmv; clear hmv
  obtain ⟨W0, hW0⟩ : ∃ W0, W0 = ((w.alloc (.cells #[.int .i64 (H[0]?.getD 0), .int .i64 (H[1]?.getD 0), .int .i64 (H[2]?.getD 0), .int .i64 (H[3]?.getD 0), .int .i64 (H[4]?.getD 0)] 67)).alloc (.cells #[.int .i64 f, .int .i64 t] 77)).alloc (.cells #[.int .i64 0, .int .i64 0, .int .i64 0, .int .i64 0, .int .i64 0] 67) := ⟨_, rfl⟩
  have n0 : New w W0 := by rw [hW0]; exact (by repeat (first | with_reducible exact New.refl _ | with_reducible assumption | refine New.drewN ?_ _ | refine New.drew ?_ | refine New.alloc ?_ _ | refine New.setCell ?_ (by first | omega | (simp; omega) | (simp; done)) _ | (refine New.trans ?_ (by assumption))))
  have b0 : Box5 W0 w.heap.size H := by rw [hW0]; exact (Box5.made w H _).new (by repeat (first | with_reducible exact New.refl _ | with_reducible assumption | refine New.drewN ?_ _ | refine New.drew ?_ | refine New.alloc ?_ _ | refine New.setCell ?_ (by first | omega | (simp; omega) | (simp; done)) _ | (refine New.trans ?_ (by assumption))))
  have c0 : W0.cell? ⟨w.heap.size + 1, 0, none⟩ = some (.int .i64 f) := by rw [hW0]; simp [go_sem]
  have c1 : W0.cell? ⟨w.heap.size + 1, 1, none⟩ = some (.int .i64 t) := by rw [hW0]; simp [go_sem]
  have r0 : Box5 W0 (w.heap.size + 1 + 1) [] := by
    rw [hW0]
    have hr := Box5.made ((w.alloc (.cells #[.int .i64 (H[0]?.getD 0), .int .i64 (H[1]?.getD 0), .int .i64 (H[2]?.getD 0), .int .i64 (H[3]?.getD 0), .int .i64 (H[4]?.getD 0)] 67)).alloc (.cells #[.int .i64 f, .int .i64 t] 77)) [] 67
    simpa using hr
  have z0 : w.heap.size + 1 + 1 < W0.heap.size := by rw [hW0]; simp
  have HW0 := Lib.hid hW0; clear hW0
  have N0 := Lib.hid n0; clear n0
  have B0 := Lib.hid b0; clear b0
  have R0 := Lib.hid r0; clear r0
  go_enter Try.func79, Try.ntmps79
  go_upto_region 1 with fail
  rw [← HW0.out]
  go_wp2_with (refine wpList_load_mid rfl 67 _ rfl w.heap.size 0 rfl (cells5 H) _ B0.out.range Try.underlying67 rfl (by kernel_rfl) ?_)
  refine (amountIn_any _ _ _ _ S H _ _ (HA.out.new N0.out) HG.out HM.out).mono ?_
  rintro e W ⟨rfl, n1⟩
  have e0 := n1.cell c0
  have e1 := n1.cell c1
  have HN := Lib.hid (N0.out.trans n1)
  have HB := Lib.hid (B0.out.new n1)
  have HR := Lib.hid (R0.out.new n1)
  have z1 := n1.size
  clear c0 c1 n1
  obtain ⟨hn, hl, hl2⟩ := HL.out
  rcases HM.out.parts with ⟨rfl, j, rfl, hj⟩ | ⟨rfl, i, rfl, hi⟩ | ⟨i, j, rfl, rfl, hi, hj, hij⟩
  · have q2 : j < 5 := by omega
    have q3 : j < H.length := by omega
    obtain ⟨v0, v1, v2, v3⟩ := HG.out.at hj
    have gb := HB.out.cell j q2
    have gf := HB.out.frozen j
    have HE := Lib.hid (poured_in S H j)
    obtain ⟨W2, hW2⟩ : ∃ W2, W2 = W.setCell ⟨w.heap.size, j, none⟩ (.int .i64 (H[j]?.getD 0 + amt S H (-1) j)) := ⟨_, rfl⟩
    have b2 : Box5 W2 w.heap.size (poured S H (-1) j) := by rw [hW2, HE.out]; exact HB.out.set q2 q3 _
    have r2 : Box5 W2 (w.heap.size + 1 + 1) [] := by rw [hW2]; exact HR.out.setOther (by simp; omega) _
    have n2 : New w W2 := by rw [hW2]; exact HN.out.setCell (Nat.le_refl _) _
    have H2 := Lib.hid hW2; clear hW2
    have N2 := Lib.hid n2; clear n2
    have B2 := Lib.hid b2; clear b2
    have R2 := Lib.hid r2; clear r2
    clear hn hl hl2 hj q3
    go_upto_region 6 with fail
    rw [← H2.out]
    go_wp2_with (first | (refine wpList_load_mid rfl 67 _ rfl w.heap.size 0 rfl (cells5 (poured S H (-1) j)) _ B2.out.range Try.underlying67 rfl (by kernel_rfl) ?_) | ((with_reducible (show wpList _ _ _ _ _ _)); go_must (refine wpList_store_mid rfl 67 _ _ rfl (w.heap.size + 1 + 1) 0 (cells5 (poured S H (-1) j)).toArray rfl rfl (R2.out.room _) (by kernel_rfl) (cells5_one _) ?_)))
    refine bodyPost_ret (v := holdV (poured S H (-1) j)) ?_ rfl ⟨rfl, N2.out.setCells (by omega) _ _⟩
    exact res_pour rfl (R2.out.fill _)
  · have q2 : i < 5 := by omega
    have q3 : i < H.length := by omega
    obtain ⟨v0, v1, v2, v3⟩ := HG.out.at hi
    have gb := HB.out.cell i q2
    have gf := HB.out.frozen i
    have HE := Lib.hid (poured_out S H i)
    obtain ⟨W2, hW2⟩ : ∃ W2, W2 = W.setCell ⟨w.heap.size, i, none⟩ (.int .i64 (H[i]?.getD 0 - amt S H i (-1))) := ⟨_, rfl⟩
    have b2 : Box5 W2 w.heap.size (poured S H i (-1)) := by rw [hW2, HE.out]; exact HB.out.set q2 q3 _
    have r2 : Box5 W2 (w.heap.size + 1 + 1) [] := by rw [hW2]; exact HR.out.setOther (by simp; omega) _
    have n2 : New w W2 := by rw [hW2]; exact HN.out.setCell (Nat.le_refl _) _
    have H2 := Lib.hid hW2; clear hW2
    have N2 := Lib.hid n2; clear n2
    have B2 := Lib.hid b2; clear b2
    have R2 := Lib.hid r2; clear r2
    clear hn hl hl2 hi q3
    go_upto_region 6 with fail
    rw [← H2.out]
    go_wp2_with (first | (refine wpList_load_mid rfl 67 _ rfl w.heap.size 0 rfl (cells5 (poured S H i (-1))) _ B2.out.range Try.underlying67 rfl (by kernel_rfl) ?_) | (refine wpList_store_mid rfl 67 _ _ rfl (w.heap.size + 1 + 1) 0 (cells5 (poured S H i (-1))).toArray rfl rfl (R2.out.room _) (by kernel_rfl) (cells5_one _) ?_))
    refine bodyPost_ret (v := holdV (poured S H i (-1))) ?_ rfl ⟨rfl, N2.out.setCells (by omega) _ _⟩
    exact res_pour rfl (R2.out.fill _)
  · have q1 : i < 5 := by omega
    have q2 : j < 5 := by omega
    have q3 : i < H.length := by omega
    have q4 : j < H.length := by omega
    obtain ⟨v0, v1, v2, v3⟩ := HG.out.at hj
    obtain ⟨u0, u1, u2, u3⟩ := HG.out.at hi
    have ga := HB.out.cell i q1
    have gb := HB.out.cell j q2
    have gf := HB.out.frozen i
    have gg := HB.out.frozen j
    have HE := Lib.hid (poured_mid S H i j hij)
    obtain ⟨W2, hW2⟩ : ∃ W2, W2 = (W.setCell ⟨w.heap.size, i, none⟩ (.int .i64 (H[i]?.getD 0 - amt S H i j))).setCell ⟨w.heap.size, j, none⟩ (.int .i64 (H[j]?.getD 0 + amt S H i j)) := ⟨_, rfl⟩
    have b2 : Box5 W2 w.heap.size (poured S H i j) := by rw [hW2, HE.out]; exact (HB.out.set q1 q3 _).set q2 (by simpa using q4) _
    have r2 : Box5 W2 (w.heap.size + 1 + 1) [] := by rw [hW2]; exact (HR.out.setOther (by simp; omega) _).setOther (by simp; omega) _
    have n2 : New w W2 := by rw [hW2]; exact (HN.out.setCell (Nat.le_refl _) _).setCell (Nat.le_refl _) _
    have H2 := Lib.hid hW2; clear hW2
    have N2 := Lib.hid n2; clear n2
    have B2 := Lib.hid b2; clear b2
    have R2 := Lib.hid r2; clear r2
    clear hn hl hl2 hi hj q3 q4
    go_upto_region 6 with fail
    rw [← H2.out]
    go_wp2_with (first | (refine wpList_load_mid rfl 67 _ rfl w.heap.size 0 rfl (cells5 (poured S H i j)) _ B2.out.range Try.underlying67 rfl (by kernel_rfl) ?_) | (refine wpList_store_mid rfl 67 _ _ rfl (w.heap.size + 1 + 1) 0 (cells5 (poured S H i j)).toArray rfl rfl (R2.out.room _) (by kernel_rfl) (cells5_one _) ?_))
    refine bodyPost_ret (v := holdV (poured S H i j)) ?_ rfl ⟨rfl, N2.out.setCells (by omega) _ _⟩
    exact res_pour rfl (R2.out.fill _)
end Go.Proofs.Ytilepckgcgdjgaa
