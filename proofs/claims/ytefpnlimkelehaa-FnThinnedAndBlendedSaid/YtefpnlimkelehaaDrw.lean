/- What is drawn of ratios and thinnings is some numbers. -/
import Derived.Test.YtefpnlimkelehaaCur
import Derived.Test.YtefpnlimkelehaaSaw
namespace Go.Proofs.Ytefpnlimkelehaa
open Go.RowKit Go.IntWalk

theorem Chg.put {P : Nat → Prop} {w w' : World} (h : Chg P w w') {p : Addr} (hp : w.heap.size ≤ p.block) (u : Value) : Chg P w (w'.setCell p u) :=
  have s := Chg.setCell (w := w') (p := p) u
  ⟨s.os.trans h.os, s.tape.trans h.tape, s.output.trans h.output, Nat.le_trans h.size s.size, fun k hk hP => (s.block k (Nat.lt_of_lt_of_le hk h.size) (by omega)).trans (h.block k hk hP)⟩
theorem Chg.alloc {P : Nat → Prop} {w w' : World} (h : Chg P w w') (o : Obj) : Chg P w (w'.alloc o) := h.trans (Chg.of_new ((New.refl w').alloc o))
theorem ints_new (w : World) (l : List Int) (t : TypeId) (hl : l.length ≤ 1000) : Ints (w.alloc (.cells (l.map (Value.int .i64)).toArray t)) (some ⟨w.heap.size, 0, none⟩) l.length l.length l := by
  refine ⟨rfl, Nat.le_refl _, by omega, fun j hj => ⟨_, _, rfl, ?_⟩, fun e => by cases e⟩
  simp [hj]
theorem ints_at' (w : World) (l : List Int) (t : TypeId) {B : Nat} (hB : w.heap.size = B) (hl : l.length ≤ 1000) : Ints (w.alloc (.cells (l.map (Value.int .i64)).toArray t)) (some ⟨B, 0, none⟩) l.length l.length l := by
  subst hB; exact ints_new w l t hl
theorem Cur.lt {w : World} {c K : Nat} (h : Cur w c K) : c < w.heap.size := by
  obtain ⟨ao, n, cap, k, s, h0, -⟩ := h.ex
  exact World.block_lt_of_cell? _ _ h0
/-- A store elsewhere leaves the reader. -/
theorem Cur.far {w : World} {c K : Nat} (h : Cur w c K) {p : Addr} {u : Value} (hp : p.block ≠ c) (hb : ∀ x, w.cell? p = some x → ∀ y, x ≠ .int .u8 y) : Cur (w.setCell p u) c K := by
  obtain ⟨ao, n, cap, k, s, h0, h1, h2, h3, h4, h5, h6⟩ := h.ex
  have ne : ∀ i, p ≠ ⟨c, i, none⟩ := fun i e => hp (by rw [e])
  refine ⟨⟨ao, n, cap, k, s, ?_, ?_, h2, ?_, h4, ⟨h5.1, h5.2.1, fun j hj => ?_⟩, h6⟩, ?_, ?_⟩
  · rw [set_other (ne 0)]; exact h0
  · rw [set_other (ne 1)]; exact h1
  · rw [set_other (ne 2)]; exact h3
  · obtain ⟨b, o, x, e, hx, q⟩ := h5.2.2 j hj
    refine ⟨b, o, x, e, ?_, q⟩
    rw [set_other]
    · exact hx
    · intro e2
      rw [e2] at hb
      exact hb _ hx x rfl
  · rw [World.frozen?_setCell]; exact h.f1
  · rw [World.frozen?_setCell]; exact h.f2
theorem Cur.box {w : World} {c K B : Nat} {x y : Int} {u v : Value} (h : Cur w c K) (hne : ¬ B = c) (b0 : w.cell? ⟨B, 0, none⟩ = some (.int .i64 x)) (b1 : w.cell? ⟨B, 1, none⟩ = some (.int .i64 y)) : Cur ((w.setCell ⟨B, 0, none⟩ u).setCell ⟨B, 1, none⟩ v) c K :=
  (h.far (p := ⟨B, 0, none⟩) hne (fun z hz t e => by rw [b0] at hz; cases hz; cases e)).far (p := ⟨B, 1, none⟩) hne (fun z hz t e => by rw [set_other (by simp), b1] at hz; cases hz; cases e)
/-- A box of two cells that a function has made. -/
structure Bx (w : World) (B : Nat) : Prop where
  ex : ∃ x y : Int, w.cell? ⟨B, 0, none⟩ = some (.int .i64 x) ∧ w.cell? ⟨B, 1, none⟩ = some (.int .i64 y)
  f0 : w.frozen? ⟨B, 0, none⟩ = false
  f1 : w.frozen? ⟨B, 1, none⟩ = false
theorem Bx.chg {P : Nat → Prop} {w w' : World} {B : Nat} (h : Bx w B) (k : Chg P w w') (hp : ¬ P B) : Bx w' B := by
  obtain ⟨x, y, c0, c1⟩ := h.ex
  exact ⟨⟨x, y, k.cell c0 hp, k.cell c1 hp⟩, k.frz' c0 hp h.f0, k.frz' c1 hp h.f1⟩
theorem Bx.made (w : World) (x y : Int) (t : TypeId) : Bx (w.alloc (.cells #[.int .i64 x, .int .i64 y] t)) w.heap.size := ⟨⟨x, y, by simp, by simp⟩, by simp, by simp⟩

set_option maxRecDepth 100000 in
set_option maxHeartbeats 8000000 in
theorem ratio_any (w : World) (c K : Nat) (h : Cur w c K) (hK : K ≤ 999900) :
    Calls Try.prog 25 #[.pointer (some ⟨c, 0, none⟩)] w fun e w' => ∃ p : Int × Int, e = .returned (ratV p) ∧ Cur w' c (K + 10) ∧ Chg (fun b => b = c) w w' := by
  have zc := h.lt
  have H := Lib.hid h; clear h
  obtain ⟨B, hB⟩ : ∃ B, B = w.heap.size := ⟨_, rfl⟩
  have X0 := Lib.hid (show Bx (w.alloc (.cells #[.int .i64 0, .int .i64 0] 27)) B by rw [hB]; exact Bx.made _ _ _ _)
  have ncB : ¬ B = c := by omega
  go_enter Try.func25, Try.ntmps25
  go_wp2_with fail
  refine (pick_any _ c K 8 (H.out.new (by repeat (first | with_reducible exact New.refl _ | with_reducible assumption | refine New.drewN ?_ _ | refine New.drew ?_ | refine New.alloc ?_ _ | refine New.setCell ?_ (by first | omega | (simp; omega) | (simp; done)) _ | (refine New.trans ?_ (by assumption))))) (by omega) (by omega)).mono ?_
  rintro e w1 ⟨x, rfl, hx, hc, hch⟩
  have C1 := Lib.hid hc
  have X1 := Lib.hid (X0.out.chg hch ncB)
  have G1 := Lib.hid (show Chg (fun b => b = c) w w1 from (Chg.of_new (by repeat (first | with_reducible exact New.refl _ | with_reducible assumption | refine New.drewN ?_ _ | refine New.drew ?_ | refine New.alloc ?_ _ | refine New.setCell ?_ (by first | omega | (simp; omega) | (simp; done)) _ | (refine New.trans ?_ (by assumption))))).trans hch)
  clear hc hch X0
  rw [← hB]
  have HB := Lib.hid hB; clear hB
  have g1 : IntKind.i64.wrap (1 + x) = 1 + x := i64_in _ (by omega)
  have g2 : IntKind.i64.wrap (3 * (1 + x)) = 3 * (1 + x) := i64_in _ (by omega)
  go_wp2_with fail
  refine (pick_any _ c (K + 2) (3 * (1 + x)) C1.out (by omega) (by omega)).mono ?_
  rintro e w2 ⟨y, rfl, hy, hc, hch⟩
  have C2 := Lib.hid hc
  have X2 := Lib.hid (X1.out.chg hch ncB)
  have G2 := Lib.hid (G1.out.trans hch)
  clear hc hch X1 C1 G1
  go_wp2_with fail
  refine (saRatio_wide _ y (1 + x) (by omega) (by omega) (by omega) (by omega)).mono ?_
  rintro e w3 ⟨rfl, n3⟩
  have C3 := Lib.hid (C2.out.new n3)
  have X3 := Lib.hid (X2.out.chg (P := fun _ => False) (Chg.of_new n3) (fun h => h))
  have G3 := Lib.hid (G2.out.trans (Chg.of_new n3))
  clear n3 X2 C2 G2 hx hy g1 g2
  obtain ⟨p1, hp1⟩ : ∃ p, p = (red y (1 + x)).1 := ⟨_, rfl⟩
  obtain ⟨p2, hp2⟩ : ∃ p, p = (red y (1 + x)).2 := ⟨_, rfl⟩
  obtain ⟨bb, hbb⟩ : ∃ b, b = sgR (red y (1 + x)).1 (red y (1 + x)).2 := ⟨_, rfl⟩
  unfold ratV
  rw [← hbb, ← hp1, ← hp2]
  clear hp1 hp2 hbb
  go_wp2_with fail
  refine (pick_any _ c (K + 4) 18 (C3.out.new (by repeat (first | with_reducible exact New.refl _ | with_reducible assumption | refine New.drewN ?_ _ | refine New.drew ?_ | refine New.alloc ?_ _ | refine New.setCell ?_ (by first | omega | (simp; omega) | (simp; done)) _ | (refine New.trans ?_ (by assumption))))) (by omega) (by omega)).mono ?_
  rintro e w4 ⟨z, rfl, -, hc, hch⟩
  obtain ⟨D, hD⟩ : ∃ D, D = w3.heap.size := ⟨_, rfl⟩
  have ncD : ¬ D = c := by have := C3.out.lt; omega
  have d0 : w4.cell? ⟨D, 0, none⟩ = some (.int .i64 p1) := hch.cell (by rw [hD]; simp) ncD
  have d1 : w4.cell? ⟨D, 1, none⟩ = some (.int .i64 p2) := hch.cell (by rw [hD]; simp) ncD
  have C4 := Lib.hid hc
  have X4 := Lib.hid ((X3.out.chg (P := fun _ => False) (Chg.of_new (by repeat (first | with_reducible exact New.refl _ | with_reducible assumption | refine New.drewN ?_ _ | refine New.drew ?_ | refine New.alloc ?_ _ | refine New.setCell ?_ (by first | omega | (simp; omega) | (simp; done)) _ | (refine New.trans ?_ (by assumption))))) (fun h => h)).chg hch ncB)
  have G4 := Lib.hid ((G3.out.alloc _).trans hch)
  clear hc hch X3 C3 G3
  rw [← hD]
  clear hD
  obtain ⟨u0, u1, b0, b1⟩ := X4.out.ex
  have f0 := X4.out.f0
  have f1 := X4.out.f1
  have hBl : w.heap.size ≤ B := by have := HB.out; omega
  by_cases e0 : z = 0
  · subst e0
    go_wp2
    refine bodyPost_ret (v := ratV (2, 4)) (by simp [results, Try.results25, go_sem, b0, b1]) rfl ⟨(2, 4), rfl, ?_, (G4.out.put (p := ⟨B, 0, none⟩) hBl _).put (p := ⟨B, 1, none⟩) hBl _⟩
    exact (C4.out.box ncB b0 b1).mono (by omega)
  · by_cases e1 : z = 1
    · subst e1
      have HL := Lib.hid (ints_new w4 [-1, 1000000000, 1000000001, 4611686018427387904] 3 (by decide))
      go_wp2_with fail
      refine (among_any _ c (K + 6) _ _ _ [-1, 1000000000, 1000000001, 4611686018427387904] (C4.out.new (by repeat (first | with_reducible exact New.refl _ | with_reducible assumption | refine New.drewN ?_ _ | refine New.drew ?_ | refine New.alloc ?_ _ | refine New.setCell ?_ (by first | omega | (simp; omega) | (simp; done)) _ | (refine New.trans ?_ (by assumption))))) HL.out (fun b o e => by cases e; have := C4.out.lt; omega) (by decide) (by decide) (by omega)).mono ?_
      rintro e w5 ⟨v1, rfl, -, hc, hch⟩
      have C5 := Lib.hid hc
      have X5 := Lib.hid ((X4.out.chg (P := fun _ => False) (Chg.of_new (by repeat (first | with_reducible exact New.refl _ | with_reducible assumption | refine New.drewN ?_ _ | refine New.drew ?_ | refine New.alloc ?_ _ | refine New.setCell ?_ (by first | omega | (simp; omega) | (simp; done)) _ | (refine New.trans ?_ (by assumption))))) (fun h => h)).chg hch ncB)
      have G5 := Lib.hid ((G4.out.alloc _).trans hch)
      clear hc hch b0 b1 f0 f1 d0 d1
      have HL2 := Lib.hid (ints_new w5 [1, 0, -1, 999999999] 3 (by decide))
      go_wp2_with fail
      refine (among_any _ c (K + 8) _ _ _ [1, 0, -1, 999999999] (C5.out.new (by repeat (first | with_reducible exact New.refl _ | with_reducible assumption | refine New.drewN ?_ _ | refine New.drew ?_ | refine New.alloc ?_ _ | refine New.setCell ?_ (by first | omega | (simp; omega) | (simp; done)) _ | (refine New.trans ?_ (by assumption))))) HL2.out (fun b o e => by cases e; have := C5.out.lt; omega) (by decide) (by decide) (by omega)).mono ?_
      rintro e w6 ⟨v2, rfl, -, hc, hch⟩
      have C6 := Lib.hid hc
      have X6 := Lib.hid ((X5.out.chg (P := fun _ => False) (Chg.of_new (by repeat (first | with_reducible exact New.refl _ | with_reducible assumption | refine New.drewN ?_ _ | refine New.drew ?_ | refine New.alloc ?_ _ | refine New.setCell ?_ (by first | omega | (simp; omega) | (simp; done)) _ | (refine New.trans ?_ (by assumption))))) (fun h => h)).chg hch ncB)
      have G6 := Lib.hid ((G5.out.alloc _).trans hch)
      clear hc hch
      obtain ⟨u0, u1, b0, b1⟩ := X6.out.ex
      have f0 := X6.out.f0
      have f1 := X6.out.f1
      go_wp2
      refine bodyPost_ret (v := ratV (v1, v2)) (by simp [results, Try.results25, go_sem, b0, b1]) rfl ⟨(v1, v2), rfl, ?_, (G6.out.put (p := ⟨B, 0, none⟩) hBl _).put (p := ⟨B, 1, none⟩) hBl _⟩
      exact (C6.out.box ncB b0 b1).mono (by omega)
    · go_wp2
      refine bodyPost_ret (v := ratV (p1, p2)) (by simp [results, Try.results25, go_sem, b0, b1]) rfl ⟨(p1, p2), rfl, ?_, (G4.out.put (p := ⟨B, 0, none⟩) hBl _).put (p := ⟨B, 1, none⟩) hBl _⟩
      exact (C4.out.box ncB b0 b1).mono (by omega)

/-- A reader just made. -/
theorem Cur.fresh {w : World} {ao : Option Addr} {n cap : Nat} (hb : Byts w ao n cap) : Cur (w.alloc (.cells #[.slice ao n cap, .int .i64 0, .int .u64 0] 41)) w.heap.size 0 :=
  Cur.start hb ((New.refl w).alloc _) (Nat.le_refl _) (by simp) (by simp) (by simp) (by simp) (by simp)

set_option maxRecDepth 100000 in
set_option maxHeartbeats 8000000 in
theorem drawThin_any (w : World) (ao : Option Addr) (n cap : Nat) (hb : Byts w ao n cap) :
    Calls Try.prog 5 #[.slice ao n cap] w fun e w' => ∃ a b t : Int, e = .returned (.tuple #[.int .i64 a, .int .i64 b, .int .i64 t]) ∧ New w w' := by
  have H := Lib.hid (Cur.fresh hb); clear hb
  go_enter Try.func5, Try.ntmps5
  go_wp2_with fail
  refine (among_any _ w.heap.size 0 _ _ _ [1, 2, 3, 4, 10, 60, 61, 0] (H.out.new (by repeat (first | with_reducible exact New.refl _ | with_reducible assumption | refine New.drewN ?_ _ | refine New.drew ?_ | refine New.alloc ?_ _ | refine New.setCell ?_ (by first | omega | (simp; omega) | (simp; done)) _ | (refine New.trans ?_ (by assumption))))) (ints_at' _ _ _ (by simp) (by decide)) (fun b o e => by cases e; omega) (by decide) (by decide) (by omega)).mono ?_
  rintro e w1 ⟨v, rfl, hm, hcc, hch⟩
  have hv : 0 ≤ v ∧ v ≤ 61 := by simp only [List.mem_cons, List.not_mem_nil, or_false] at hm; omega
  have C1 := Lib.hid hcc
  have G1 := Lib.hid (show Chg (fun b => b = w.heap.size) w w1 from ((Chg.refl _ w).alloc _).alloc _ |>.trans hch)
  clear hm hcc hch H
  obtain ⟨c, hc⟩ : ∃ c, c = w.heap.size := ⟨_, rfl⟩
  rw [← hc] at C1 G1 ⊢
  have HC := Lib.hid hc; clear hc
  go_wp2_with fail
  refine (l1Most_any _ _ _).mono ?_
  rintro e w1' ⟨rfl, rfl⟩
  obtain ⟨m, hm, m0, m1⟩ : ∃ m, m = max v 1 ∧ 0 ≤ m ∧ m ≤ 61 := ⟨max v 1, rfl, by omega, by omega⟩
  rw [← hm]
  clear hm hv
  have g1 : IntKind.i64.wrap (m + 1) = m + 1 := i64_in _ (by omega)
  go_wp2_with fail
  refine (pick_any _ c 2 (m + 1) C1.out (by omega) (by omega)).mono ?_
  rintro e w2 ⟨x, rfl, -, hcc, hch⟩
  have C2 := Lib.hid hcc
  have G2 := Lib.hid (G1.out.trans hch)
  have zc := hcc.lt
  clear hcc hch C1 G1 m0 m1 g1
  go_wp2_with fail
  refine (among_any _ c 4 _ _ _ [0, 1, 2, 3, 5, 50, 51, -1] (C2.out.new (by repeat (first | with_reducible exact New.refl _ | with_reducible assumption | refine New.drewN ?_ _ | refine New.drew ?_ | refine New.alloc ?_ _ | refine New.setCell ?_ (by first | omega | (simp; omega) | (simp; done)) _ | (refine New.trans ?_ (by assumption))))) (ints_at' _ _ _ rfl (by decide)) (fun b o e => by cases e; omega) (by decide) (by decide) (by omega)).mono ?_
  rintro e w3 ⟨y, rfl, -, hcc, hch⟩
  have G3 := Lib.hid ((G2.out.alloc _).trans hch)
  clear hcc hch C2 G2
  go_wp2
  go_ret3
  exact ⟨v, x, y, rfl, Chg.new (New.refl w) G3.out (fun i hi => by have := HC.out; omega)⟩

theorem Cur.fresh' {w : World} {ao : Option Addr} {n cap c : Nat} (hb : Byts w ao n cap) (hc : w.heap.size = c) : Cur (w.alloc (.cells #[.slice ao n cap, .int .i64 0, .int .u64 0] 41)) c 0 := by
  subst hc; exact Cur.fresh hb
theorem Bx.made' (w : World) (x y : Int) (t : TypeId) {B : Nat} (hB : w.heap.size = B) : Bx (w.alloc (.cells #[.int .i64 x, .int .i64 y] t)) B := by
  subst hB; exact Bx.made _ _ _ _
theorem Bx.new {w w' : World} {B : Nat} (h : Bx w B) (k : New w w') : Bx w' B := h.chg (P := fun _ => False) (Chg.of_new k) (fun h => h)

set_option maxRecDepth 100000 in
set_option maxHeartbeats 8000000 in
theorem drawTimes_any (w : World) (ao : Option Addr) (n cap : Nat) (hb : Byts w ao n cap) :
    Calls Try.prog 8 #[.slice ao n cap] w fun e w' => ∃ (a b : Int) (p : Int × Int), e = .returned (.tuple #[.int .i64 a, .int .i64 b, ratV p]) ∧ New w w' := by
  have HB := Lib.hid hb; clear hb
  have X0 := Lib.hid ((Bx.made' w 0 0 27 rfl).new ((by repeat (first | with_reducible exact New.refl _ | with_reducible assumption | refine New.drewN ?_ _ | refine New.drew ?_ | refine New.alloc ?_ _ | refine New.setCell ?_ (by first | omega | (simp; omega) | (simp; done)) _ | (refine New.trans ?_ (by assumption)))) : New _ ((w.alloc (.cells #[.int .i64 0, .int .i64 0] 27)).alloc (.cells #[.slice ao n cap, .int .i64 0, .int .u64 0] 41))))
  have H := Lib.hid (Cur.fresh' (c := w.heap.size + 1) (HB.out.new ((New.refl w).alloc (.cells #[.int .i64 0, .int .i64 0] 27))) (by simp))
  go_enter Try.func8, Try.ntmps8
  go_wp2_with fail
  refine (drawThin_any _ ao n cap (HB.out.new (by repeat (first | with_reducible exact New.refl _ | with_reducible assumption | refine New.drewN ?_ _ | refine New.drew ?_ | refine New.alloc ?_ _ | refine New.setCell ?_ (by first | omega | (simp; omega) | (simp; done)) _ | (refine New.trans ?_ (by assumption)))))).mono ?_
  rintro e w1 ⟨a, b, t, rfl, n1⟩
  have C1 := Lib.hid (H.out.new n1)
  have X1 := Lib.hid (X0.out.new n1)
  have G1 := Lib.hid (show New w w1 from New.trans (by repeat (first | with_reducible exact New.refl _ | with_reducible assumption | refine New.drewN ?_ _ | refine New.drew ?_ | refine New.alloc ?_ _ | refine New.setCell ?_ (by first | omega | (simp; omega) | (simp; done)) _ | (refine New.trans ?_ (by assumption)))) n1)
  clear n1 H X0 HB
  obtain ⟨B, hB⟩ : ∃ B, B = w.heap.size := ⟨_, rfl⟩
  rw [← hB] at C1 X1 ⊢
  have HW := Lib.hid hB; clear hB
  obtain ⟨c, hc⟩ : ∃ c, c = B + 1 := ⟨_, rfl⟩
  rw [← hc] at C1 ⊢
  have HC := Lib.hid hc; clear hc
  go_wp2_with fail
  refine (pick_any _ c 0 3 C1.out (by omega) (by omega)).mono ?_
  rintro e w2 ⟨x, rfl, hx, hcc, hch⟩
  have C2 := Lib.hid hcc
  have X2 := Lib.hid (X1.out.chg hch (by have := HC.out; omega))
  have G2 := Lib.hid ((Chg.of_new (P := fun b => b = c) G1.out).trans hch)
  clear hcc hch C1 X1 G1
  have g1 : IntKind.i64.wrap (1 + x) = 1 + x := i64_in _ (by omega)
  go_wp2_with fail
  refine (pick_any _ c 2 9 C2.out (by omega) (by omega)).mono ?_
  rintro e w3 ⟨y, rfl, hy, hcc, hch⟩
  have C3 := Lib.hid hcc
  have X3 := Lib.hid (X2.out.chg hch (by have := HC.out; omega))
  have G3 := Lib.hid (G2.out.trans hch)
  clear hcc hch C2 X2 G2
  have g2 : IntKind.i64.wrap (1 + y) = 1 + y := i64_in _ (by omega)
  go_wp2_with fail
  refine (saRatio_wide _ (1 + x) (1 + y) (by omega) (by omega) (by omega) (by omega)).mono ?_
  rintro e w4 ⟨rfl, n4⟩
  have C4 := Lib.hid (C3.out.new n4)
  have X4 := Lib.hid (X3.out.new n4)
  have G4 := Lib.hid (G3.out.trans (Chg.of_new n4))
  clear n4 C3 X3 G3 hx hy g1 g2
  obtain ⟨p1, hp1⟩ : ∃ p, p = (red (1 + x) (1 + y)).1 := ⟨_, rfl⟩
  obtain ⟨p2, hp2⟩ : ∃ p, p = (red (1 + x) (1 + y)).2 := ⟨_, rfl⟩
  obtain ⟨bb, hbb⟩ : ∃ b, b = sgR (red (1 + x) (1 + y)).1 (red (1 + x) (1 + y)).2 := ⟨_, rfl⟩
  unfold ratV
  rw [← hbb, ← hp1, ← hp2]
  clear hp1 hp2 hbb
  go_wp2_with fail
  refine (one_any _ c 4 8 (C4.out.new (by repeat (first | with_reducible exact New.refl _ | with_reducible assumption | refine New.drewN ?_ _ | refine New.drew ?_ | refine New.alloc ?_ _ | refine New.setCell ?_ (by first | omega | (simp; omega) | (simp; done)) _ | (refine New.trans ?_ (by assumption))))) (by omega) (by omega)).mono ?_
  rintro e w5 ⟨b8, rfl, hcc, hch⟩
  obtain ⟨D, hD⟩ : ∃ D, D = w4.heap.size := ⟨_, rfl⟩
  have ncD : ¬ D = c := by have := C4.out.lt; omega
  have nDB : ¬ D = B := by
    obtain ⟨_, _, q, _⟩ := X4.out.ex
    have := World.block_lt_of_cell? _ _ q
    simp only at this; omega
  have d0 : w5.cell? ⟨D, 0, none⟩ = some (.int .i64 p1) := hch.cell (by rw [hD]; simp) ncD
  have d1 : w5.cell? ⟨D, 1, none⟩ = some (.int .i64 p2) := hch.cell (by rw [hD]; simp) ncD
  have C5 := Lib.hid hcc
  have X5 := Lib.hid ((X4.out.new (by repeat (first | with_reducible exact New.refl _ | with_reducible assumption | refine New.drewN ?_ _ | refine New.drew ?_ | refine New.alloc ?_ _ | refine New.setCell ?_ (by first | omega | (simp; omega) | (simp; done)) _ | (refine New.trans ?_ (by assumption))))).chg hch (by have := HC.out; omega))
  have G5 := Lib.hid ((G4.out.alloc _).trans hch)
  clear hcc hch C4 X4 G4
  rw [← hD]
  clear hD
  cases b8 with
  | true =>
    go_wp2_with fail
    refine (ratio_any _ c 6 C5.out (by omega)).mono ?_
    rintro e w6 ⟨q, rfl, hcc, hch⟩
    have X6 := Lib.hid (X5.out.chg hch (by have := HC.out; omega))
    have G6 := Lib.hid (G5.out.trans hch)
    clear hcc hch C5 X5 G5
    obtain ⟨u0, u1, b0, b1⟩ := X6.out.ex
    have f0 := X6.out.f0
    have f1 := X6.out.f1
    unfold ratV
    obtain ⟨q1, q2⟩ := q
    simp only
    go_wp2
    refine bodyPost_ret (v := .tuple #[.int .i64 a, .int .i64 b, ratV (q1, q2)]) (by simp [results, Try.results8, go_sem, b0, b1]) rfl ⟨a, b, (q1, q2), rfl, ?_⟩
    have h1 := HW.out
    have h2 := HC.out
    exact Chg.new (New.refl w) ((G6.out.put (p := ⟨B, 0, none⟩) (by simp; omega) _).put (p := ⟨B, 1, none⟩) (by simp; omega) _) (fun i hi => by omega)
  | false =>
    obtain ⟨u0, u1, b0, b1⟩ := X5.out.ex
    have f0 := X5.out.f0
    have f1 := X5.out.f1
    clear C5 X5
    go_wp2
    go_region
    all_goals go_wp2
    all_goals
      refine bodyPost_ret (v := .tuple #[.int .i64 a, .int .i64 b, ratV (p1, p2)]) (by simp [results, Try.results8, go_sem, b0, b1]) rfl ⟨a, b, (p1, p2), rfl, ?_⟩
      have h1 := HW.out
      have h2 := HC.out
      exact Chg.new (New.refl w) (((G5.out.trans (Chg.of_new ((New.refl _).drew))).put (p := ⟨B, 0, none⟩) (by simp; omega) _).put (p := ⟨B, 1, none⟩) (by simp; omega) _) (fun i hi => by omega)
end Go.Proofs.Ytefpnlimkelehaa
