/- What is drawn of levels of siphons. -/
import Derived.Test.YtfhpmihjfojbnaaDrs
import Derived.Deep.RegionHeld3
namespace Go.Proofs.Ytfhpmihjfojbnaa
open Go.RowKit Go.IntWalk

/-- A box of a number and a Bool. -/
structure Bx2 (w : World) (B : Nat) (a : Int) (b : Bool) : Prop where
  c0 : w.cell? ⟨B, 0, none⟩ = some (.int .i64 a)
  c1 : w.cell? ⟨B, 1, none⟩ = some (.bool b)
  f0 : w.frozen? ⟨B, 0, none⟩ = false
  f1 : w.frozen? ⟨B, 1, none⟩ = false
theorem Bx2.lt {w : World} {B : Nat} {a : Int} {b : Bool} (h : Bx2 w B a b) : B < w.heap.size := World.block_lt_of_cell? _ _ h.c0
theorem Bx2.kept {w w' : World} {B : Nat} {a : Int} {b : Bool} (h : Bx2 w B a b) (k : w'.heap[B]? = w.heap[B]?) : Bx2 w' B a b :=
  ⟨(World.cell?_of_block (a := ⟨B, 0, none⟩) k).trans h.c0, (World.cell?_of_block (a := ⟨B, 1, none⟩) k).trans h.c1, (World.frozen?_of_block (a := ⟨B, 0, none⟩) k).trans h.f0, (World.frozen?_of_block (a := ⟨B, 1, none⟩) k).trans h.f1⟩
theorem Bx2.new {w w' : World} {B : Nat} {a : Int} {b : Bool} (h : Bx2 w B a b) (k : New w w') : Bx2 w' B a b := h.kept (k.block _ h.lt)
theorem Bx2.chg {P : Nat → Prop} {w w' : World} {B : Nat} {a : Int} {b : Bool} (h : Bx2 w B a b) (k : Chg P w w') (hP : ¬ P B) : Bx2 w' B a b := h.kept (k.block _ h.lt hP)
theorem Bx2.fresh (w : World) (a : Int) (b : Bool) (t : TypeId) {B : Nat} (hB : w.heap.size = B) : Bx2 (w.alloc (.cells #[.int .i64 a, .bool b] t)) B a b := by
  subst hB
  refine ⟨?_, ?_, ?_, ?_⟩ <;> simp
theorem Bx2.apart {w : World} {B : Nat} {a : Int} {b : Bool} (h : Bx2 w B a b) {p : Addr} (hp : p.block ≠ B) (u : Value) : Bx2 (w.setCell p u) B a b :=
  h.kept ((Chg.setCell (w := w) (p := p) u).block B h.lt (by omega))

set_option maxRecDepth 100000 in
set_option maxHeartbeats 8000000 in
theorem drLevel_any (w : World) (c K : Nat) (a b s d : Int) (h : Cur w c K) (hK : K ≤ 900000) :
    Calls Try.prog 45 #[.pointer (some ⟨c, 0, none⟩), sipV a b s d] w fun e w' => ∃ (u : Int) (r : Bool), e = .returned (levV u r) ∧ Cur w' c (K + 20) ∧ Chg (fun b => b = c) w w' := by
  have zc := h.lt
  have H := Lib.hid h; clear h
  obtain ⟨B, hB⟩ : ∃ R, R = w.heap.size := ⟨_, rfl⟩
  have HL := Lib.hid hB
  rw [← hB] at zc
  clear hB
  go_enter Try.func45, Try.ntmps45
  go_upto_region 1 with fail
  obtain ⟨w1, hw1⟩ : ∃ W, W = (w.alloc (.cells #[.int .i64 a, .int .i64 b, .int .i64 s, .int .i64 d] 25)).alloc (.cells #[.int .i64 0, .bool false] 27) := ⟨_, rfl⟩
  have X1 := Lib.hid (show Bx4 w1 B a b s d by rw [hw1]; exact (Bx4.fresh w a b s d _ HL.out.symm).new ((New.refl _).alloc _))
  have R1 := Lib.hid (show Bx2 w1 (B + 1) 0 false by rw [hw1]; exact Bx2.fresh _ 0 false _ (by have := HL.out; simp; omega))
  have G1 := Lib.hid (show Chg (fun b => b = c) w w1 by rw [hw1]; exact Chg.of_new (((New.refl _).alloc _).alloc _))
  have C1 := Lib.hid (show Cur w1 c K by rw [hw1]; exact H.out.new (((New.refl _).alloc _).alloc _))
  have hs : w.heap.size = B := HL.out.symm
  try rw [hs]
  rw [← hw1]
  clear hw1 hs H
  have x0 := X1.out.c0
  by_cases h1 : a < 1
  · clear x0
    have x0 := X1.out.c0
    have zz := C1.out.lt
    go_wp2_with fail
    refine (among_any _ c _ _ _ _ [-1, 0, a, 61] (C1.out.new (by repeat (first | with_reducible exact New.refl _ | with_reducible assumption | refine New.drewN ?_ _ | refine New.drew ?_ | refine New.alloc ?_ _ | refine New.setCell ?_ (by first | omega | (simp; omega) | (simp; done)) _ | (refine New.trans ?_ (by assumption))))) (ints_at' _ _ _ rfl (by simp)) (fun b o e => by cases e; omega) (by simp) (by simp) (by omega)).mono ?_
    rintro e w6 ⟨y, rfl, -, hcc, hch⟩
    have C6 := Lib.hid hcc
    have R6 := Lib.hid ((R1.out.new ((New.refl w1).alloc _)).chg hch (by omega))
    have G6 := Lib.hid ((G1.out.alloc _).trans hch)
    clear hcc hch C1 R1 G1 X1 x0
    go_wp2_with fail
    refine (one_any _ c _ 2 C6.out (by omega) (by omega)).mono ?_
    rintro e w7 ⟨r, rfl, hcc, hch⟩
    have C7 := Lib.hid hcc
    have R7 := Lib.hid (R6.out.chg hch (by omega))
    have G7 := Lib.hid (G6.out.trans hch)
    clear hcc hch C6 R6 G6
    have y0 := R7.out.c0
    have y1 := R7.out.c1
    have z0 := R7.out.f0
    have z1 := R7.out.f1
    go_wp2
    refine bodyPost_ret (v := levV y r) (by simp [results, Try.results45, go_sem, levV, *]) rfl ⟨_, _, rfl, ((C7.out.store3 (by simp only; omega) _).store3 (by simp only; omega) _).mono (by omega), ((G7.out.put3 (by simp only; have := HL.out; omega) _).put3 (by simp only; have := HL.out; omega) _)⟩
  · by_cases h2 : 60 < a
    · clear x0
      have x0 := X1.out.c0
      have zz := C1.out.lt
      go_wp2_with fail
      refine (among_any _ c _ _ _ _ [-1, 0, a, 61] (C1.out.new (by repeat (first | with_reducible exact New.refl _ | with_reducible assumption | refine New.drewN ?_ _ | refine New.drew ?_ | refine New.alloc ?_ _ | refine New.setCell ?_ (by first | omega | (simp; omega) | (simp; done)) _ | (refine New.trans ?_ (by assumption))))) (ints_at' _ _ _ rfl (by simp)) (fun b o e => by cases e; omega) (by simp) (by simp) (by omega)).mono ?_
      rintro e w6 ⟨y, rfl, -, hcc, hch⟩
      have C6 := Lib.hid hcc
      have R6 := Lib.hid ((R1.out.new ((New.refl w1).alloc _)).chg hch (by omega))
      have G6 := Lib.hid ((G1.out.alloc _).trans hch)
      clear hcc hch C1 R1 G1 X1 x0
      go_wp2_with fail
      refine (one_any _ c _ 2 C6.out (by omega) (by omega)).mono ?_
      rintro e w7 ⟨r, rfl, hcc, hch⟩
      have C7 := Lib.hid hcc
      have R7 := Lib.hid (R6.out.chg hch (by omega))
      have G7 := Lib.hid (G6.out.trans hch)
      clear hcc hch C6 R6 G6
      have y0 := R7.out.c0
      have y1 := R7.out.c1
      have z0 := R7.out.f0
      have z1 := R7.out.f1
      go_wp2
      refine bodyPost_ret (v := levV y r) (by simp [results, Try.results45, go_sem, levV, *]) rfl ⟨_, _, rfl, ((C7.out.store3 (by simp only; omega) _).store3 (by simp only; omega) _).mono (by omega), ((G7.out.put3 (by simp only; have := HL.out; omega) _).put3 (by simp only; have := HL.out; omega) _)⟩
    · go_wp2_with fail
      refine (one_any _ c _ 14 C1.out (by omega) (by omega)).mono ?_
      rintro e w2 ⟨q, rfl, hcc, hch⟩
      have C2 := Lib.hid hcc
      have X2 := Lib.hid (X1.out.chg hch (by omega))
      have R2 := Lib.hid (R1.out.chg hch (by omega))
      have G2 := Lib.hid (G1.out.trans hch)
      clear hcc hch C1 X1 R1 G1 x0
      cases q with
      | true =>
        have x0 := X2.out.c0
        have zz := C2.out.lt
        go_wp2_with fail
        refine (among_any _ c _ _ _ _ [-1, 0, a, 61] (C2.out.new (by repeat (first | with_reducible exact New.refl _ | with_reducible assumption | refine New.drewN ?_ _ | refine New.drew ?_ | refine New.alloc ?_ _ | refine New.setCell ?_ (by first | omega | (simp; omega) | (simp; done)) _ | (refine New.trans ?_ (by assumption))))) (ints_at' _ _ _ rfl (by simp)) (fun b o e => by cases e; omega) (by simp) (by simp) (by omega)).mono ?_
        rintro e w6 ⟨y, rfl, -, hcc, hch⟩
        have C6 := Lib.hid hcc
        have R6 := Lib.hid ((R2.out.new ((New.refl w2).alloc _)).chg hch (by omega))
        have G6 := Lib.hid ((G2.out.alloc _).trans hch)
        clear hcc hch C2 R2 G2 X2 x0
        go_wp2_with fail
        refine (one_any _ c _ 2 C6.out (by omega) (by omega)).mono ?_
        rintro e w7 ⟨r, rfl, hcc, hch⟩
        have C7 := Lib.hid hcc
        have R7 := Lib.hid (R6.out.chg hch (by omega))
        have G7 := Lib.hid (G6.out.trans hch)
        clear hcc hch C6 R6 G6
        have y0 := R7.out.c0
        have y1 := R7.out.c1
        have z0 := R7.out.f0
        have z1 := R7.out.f1
        go_wp2
        refine bodyPost_ret (v := levV y r) (by simp [results, Try.results45, go_sem, levV, *]) rfl ⟨_, _, rfl, ((C7.out.store3 (by simp only; omega) _).store3 (by simp only; omega) _).mono (by omega), ((G7.out.put3 (by simp only; have := HL.out; omega) _).put3 (by simp only; have := HL.out; omega) _)⟩
      | false =>
        have x0 := X2.out.c0
        have ga : IntKind.i64.wrap (a + 1) = a + 1 := i64_in _ (by omega)
        go_wp2_with fail
        refine (pick_any _ c _ (a + 1) C2.out (by omega) (by omega)).mono ?_
        rintro e w6 ⟨y, rfl, -, hcc, hch⟩
        have C6 := Lib.hid hcc
        have R6 := Lib.hid (R2.out.chg hch (by omega))
        have G6 := Lib.hid (G2.out.trans hch)
        clear hcc hch C2 R2 G2 X2 x0 ga
        go_wp2_with fail
        refine (one_any _ c _ 3 C6.out (by omega) (by omega)).mono ?_
        rintro e w7 ⟨r, rfl, hcc, hch⟩
        have C7 := Lib.hid hcc
        have R7 := Lib.hid (R6.out.chg hch (by omega))
        have G7 := Lib.hid (G6.out.trans hch)
        clear hcc hch C6 R6 G6
        have y0 := R7.out.c0
        have y1 := R7.out.c1
        have z0 := R7.out.f0
        have z1 := R7.out.f1
        go_wp2
        refine bodyPost_ret (v := levV y r) (by simp [results, Try.results45, go_sem, levV, *]) rfl ⟨_, _, rfl, ((C7.out.store3 (by simp only; omega) _).store3 (by simp only; omega) _).mono (by omega), ((G7.out.put3 (by simp only; have := HL.out; omega) _).put3 (by simp only; have := HL.out; omega) _)⟩


set_option maxRecDepth 100000 in
set_option maxHeartbeats 8000000 in
theorem drawIsSiphonLevel_any (w : World) (ao : Option Addr) (n cap : Nat) (hb : Byts w ao n cap) :
    Calls Try.prog 20 #[.slice ao n cap] w fun e w' => ∃ (a b s d u : Int) (r : Bool), e = .returned (.tuple #[sipV a b s d, levV u r]) ∧ New w w' := by
  have HB := Lib.hid hb; clear hb
  obtain ⟨R, hR⟩ : ∃ R, R = w.heap.size := ⟨_, rfl⟩
  have HL := Lib.hid hR
  clear hR
  go_enter Try.func20, Try.ntmps20
  go_upto_region 1 with fail
  obtain ⟨w1, hw1⟩ : ∃ W, W = (w.alloc (.cells #[.int .i64 0, .int .i64 0, .int .i64 0, .int .i64 0] 25)).alloc (.cells #[.int .i64 0, .bool false] 27) := ⟨_, rfl⟩
  have X1 := Lib.hid (show Bx4 w1 R 0 0 0 0 by rw [hw1]; exact (Bx4.fresh w 0 0 0 0 _ HL.out.symm).new ((New.refl _).alloc _))
  have Y1 := Lib.hid (show Bx2 w1 (R + 1) 0 false by rw [hw1]; exact Bx2.fresh _ 0 false _ (by have := HL.out; simp; omega))
  have N1 := Lib.hid (show New w w1 by rw [hw1]; exact ((New.refl _).alloc _).alloc _)
  have B1 := Lib.hid (HB.out.new N1.out)
  have hs : w.heap.size = R := HL.out.symm
  try rw [hs]
  rw [← hw1]
  clear hw1 hs HB
  have zr1 := Y1.out.lt
  obtain ⟨c, hc⟩ : ∃ c, c = w1.heap.size := ⟨_, rfl⟩
  have HC := Lib.hid hc
  have zcr : R + 1 < c := by omega
  clear hc zr1
  have C1 := Lib.hid (Cur.fresh' B1.out HC.out.symm)
  go_upto_region 2 with fail
  rw [← HC.out]
  go_wp2_with fail
  refine (drSiphon_any _ c 0 C1.out (by omega)).mono ?_
  rintro e w2 ⟨a, b, s, d, rfl, hcc, hch⟩
  have C2 := Lib.hid hcc
  have X2 := Lib.hid ((X1.out.new ((New.refl w1).alloc _)).chg hch (by omega))
  have Y2 := Lib.hid ((Y1.out.new ((New.refl w1).alloc _)).chg hch (by omega))
  have G2 := Lib.hid (((Chg.of_new (P := fun b => b = c) N1.out).alloc _).trans hch)
  clear hcc hch C1 X1 Y1 B1 N1
  obtain ⟨S, hS⟩ : ∃ c, c = w2.heap.size := ⟨_, rfl⟩
  have HS := Lib.hid hS
  have zs : c < S := by have := C2.out.lt; omega
  clear hS
  go_upto_region 3 with fail
  rw [← HS.out]
  obtain ⟨w3, hw3⟩ : ∃ W, W = w2.alloc (.cells #[.int .i64 a, .int .i64 b, .int .i64 s, .int .i64 d] 25) := ⟨_, rfl⟩
  have Z3 := Lib.hid (show Bx4 w3 S a b s d by rw [hw3]; exact Bx4.fresh w2 a b s d _ HS.out.symm)
  have C3 := Lib.hid (show Cur w3 c 20 by rw [hw3]; exact (C2.out.mono (by omega)).new ((New.refl _).alloc _))
  have X3 := Lib.hid (show Bx4 w3 R 0 0 0 0 by rw [hw3]; exact X2.out.new ((New.refl _).alloc _))
  have Y3 := Lib.hid (show Bx2 w3 (R + 1) 0 false by rw [hw3]; exact Y2.out.new ((New.refl _).alloc _))
  have G3 := Lib.hid (show Chg (fun b => b = c) w w3 by rw [hw3]; exact G2.out.alloc _)
  rw [← hw3]
  clear hw3 C2 X2 Y2 G2
  refine wp_region_held_drew (S := fun w' => w'.cell? ⟨S, 0, none⟩ = some (.int .i64 a) ∧ w'.cell? ⟨S, 1, none⟩ = some (.int .i64 b) ∧ w'.cell? ⟨S, 2, none⟩ = some (.int .i64 s) ∧ w'.cell? ⟨S, 3, none⟩ = some (.int .i64 d)) (by kernel_rfl) ⟨Z3.out.c0, Z3.out.c1, Z3.out.c2, Z3.out.c3⟩ (fun hHeld => ?_)
  obtain ⟨y0, hy0⟩ : ∃ y, y = w3.drew := ⟨_, rfl⟩
  have m0 : New w3 y0 := by rw [hy0]; exact (New.refl _).drew
  rw [← hy0] at hHeld ⊢
  clear hy0
  have C4 := Lib.hid (C3.out.new m0)
  have X4 := Lib.hid (X3.out.new m0)
  have Y4 := Lib.hid (Y3.out.new m0)
  have G4 := Lib.hid (G3.out.trans (Chg.of_new m0))
  clear C3 X3 Y3 G3 Z3 m0
  refine wpAnyH_take (i := 0) (oi := ⟨some 11, _, _, _, _, _⟩) (v := ?_) rfl (by kernel_rfl) (by kernel_rfl) (by kernel_rfl) (fun _ _ _ h => h) (Or.inl ⟨by rfl, ?_⟩) hHeld ?_; rotate_left; (· (intro w_ hSw; (try dsimp only at hSw); (try go_split_ands); go_simp; (try with_reducible rfl))); (try simp only [Act.put, List.setIfInBounds_toArray, List.set_cons_zero, List.set_cons_succ])
  refine wpAnyH_take (i := 1) (oi := ⟨some 12, _, _, _, _, _⟩) (v := ?_) rfl (by kernel_rfl) (by kernel_rfl) (by kernel_rfl) (fun _ _ _ h => h) (Or.inl ⟨by rfl, ?_⟩) hHeld ?_; rotate_left; (· (intro w_ hSw; (try dsimp only at hSw); (try go_split_ands); go_simp; (try with_reducible rfl))); (try simp only [Act.put, List.setIfInBounds_toArray, List.set_cons_zero, List.set_cons_succ])
  refine wpAnyH_take (i := 2) (oi := ⟨some 13, _, _, _, _, _⟩) (v := ?_) rfl (by kernel_rfl) (by kernel_rfl) (by kernel_rfl) (fun _ _ _ h => h) (Or.inl ⟨by rfl, ?_⟩) hHeld ?_; rotate_left; (· (intro w_ hSw; (try dsimp only at hSw); (try go_split_ands); go_simp; (try with_reducible rfl))); (try simp only [Act.put, List.setIfInBounds_toArray, List.set_cons_zero, List.set_cons_succ])
  refine wpAnyH_ready (rs := [3]) (by kernel_rfl) (by simp) ?_
  refine AllReadyH.cons (o := ⟨some 14, _, _, _, _, _⟩) rfl (fun K hK => ?_) AllReadyH.nil
  go_simp
  refine (drLevel_any _ c 20 a b s d C4.out (by omega)).mono ?_
  rintro e y1 ⟨u, r, rfl, hcc, hch⟩
  have C5 := Lib.hid hcc
  have X5 := Lib.hid (X4.out.chg hch (by omega))
  have Y5 := Lib.hid (Y4.out.chg hch (by omega))
  have G5 := Lib.hid (G4.out.trans hch)
  refine hK.out _ _ ⟨hch.cell hHeld.1 (by simp only; omega), hch.cell hHeld.2.1 (by simp only; omega), hch.cell hHeld.2.2.1 (by simp only; omega), hch.cell hHeld.2.2.2 (by simp only; omega)⟩ (fun hHeld => ?_)
  clear hK K hcc hch C4 X4 Y4 G4
  (try simp only [Act.put, List.setIfInBounds_toArray, List.set_cons_zero, List.set_cons_succ])
  refine wpAnyH_ready (rs := [4]) (by kernel_rfl) (by simp) ?_
  refine AllReadyH.cons (o := ⟨none, _, _, _, _, _⟩) rfl (fun K hK => ?_) AllReadyH.nil
  have q0 := X5.out.c0
  have q1 := X5.out.c1
  have q2 := X5.out.c2
  have q3 := X5.out.c3
  have p0 := X5.out.f0
  have p1 := X5.out.f1
  have p2 := X5.out.f2
  have p3 := X5.out.f3
  go_simp
  obtain ⟨y8, hz⟩ : ∃ z, z = (((y1.setCell ⟨R, 0, none⟩ (.int .i64 a)).setCell ⟨R, 1, none⟩ (.int .i64 b)).setCell ⟨R, 2, none⟩ (.int .i64 s)).setCell ⟨R, 3, none⟩ (.int .i64 d) := ⟨_, rfl⟩
  rw [← hz]
  have X8 := Lib.hid (show Bx4 y8 R a b s d by rw [hz]; exact (((X5.out.set0 a).set1 b).set2 s).set3 d)
  have Y8 := Lib.hid (show Bx2 y8 (R + 1) 0 false by rw [hz]; exact (((Y5.out.apart (by simp) _).apart (by simp) _).apart (by simp) _).apart (by simp) _)
  have G8 := Lib.hid (show Chg (fun b => b = c) w y8 by rw [hz]; exact (((G5.out.put3 (by simp only; have := HL.out; omega) _).put3 (by simp only; have := HL.out; omega) _).put3 (by simp only; have := HL.out; omega) _).put3 (by simp only; have := HL.out; omega) _)
  have k8 : ∀ B o v, B ≠ R → y1.cell? ⟨B, o, none⟩ = some v → y8.cell? ⟨B, o, none⟩ = some v := fun B o v hne hv => by rw [hz, set_other (by first | (simp; done) | (simp; omega)), set_other (by first | (simp; done) | (simp; omega)), set_other (by first | (simp; done) | (simp; omega)), set_other (by first | (simp; done) | (simp; omega))]; exact hv
  skip
  refine hK.out _ _ ⟨k8 _ _ _ (by omega) hHeld.1, k8 _ _ _ (by omega) hHeld.2.1, k8 _ _ _ (by omega) hHeld.2.2.1, k8 _ _ _ (by omega) hHeld.2.2.2⟩ (fun hHeld => ?_)
  clear hK K hz k8 q0 q1 q2 q3 p0 p1 p2 p3 X5 Y5 G5 
  (try simp only [Act.put])
  refine wpAnyH_ready (rs := [5]) (by kernel_rfl) (by simp) ?_
  refine AllReadyH.cons (o := ⟨none, _, _, _, _, _⟩) rfl (fun K hK => ?_) AllReadyH.nil
  have q0 := Y8.out.c0
  have q1 := Y8.out.c1
  have p0 := Y8.out.f0
  have p1 := Y8.out.f1
  go_simp
  obtain ⟨y9, hz⟩ : ∃ z, z = (y8.setCell ⟨R + 1, 0, none⟩ (.int .i64 u)).setCell ⟨R + 1, 1, none⟩ (.bool r) := ⟨_, rfl⟩
  rw [← hz]
  have X9 := Lib.hid (show Bx4 y9 R a b s d by rw [hz]; exact (X8.out.apart (by simp) _).apart (by simp) _)
  have q8 : y9.cell? ⟨R + 1, 0, none⟩ = some (.int .i64 u) := by rw [hz, set_other (by simp)]; exact set_same q0
  have q9 : y9.cell? ⟨R + 1, 1, none⟩ = some (.bool r) := by rw [hz]; exact set_same (by rw [set_other (by simp)]; exact q1)
  have G9 := Lib.hid (show Chg (fun b => b = c) w y9 by rw [hz]; exact (G8.out.put3 (by simp only; have := HL.out; omega) _).put3 (by simp only; have := HL.out; omega) _)
  skip
  have k9 : ∀ B o v, B ≠ R + 1 → y8.cell? ⟨B, o, none⟩ = some v → y9.cell? ⟨B, o, none⟩ = some v := fun B o v hne hv => by rw [hz, set_other (by first | (simp; done) | (simp; omega)), set_other (by first | (simp; done) | (simp; omega))]; exact hv
  refine hK.out _ _ ⟨k9 _ _ _ (by omega) hHeld.1, k9 _ _ _ (by omega) hHeld.2.1, k9 _ _ _ (by omega) hHeld.2.2.1, k9 _ _ _ (by omega) hHeld.2.2.2⟩ (fun hHeld => ?_)
  clear hK K hz q0 q1 p0 p1
  (try simp only [Act.put])
  refine wpAnyH_done (by kernel_rfl) ?_ _
  have x0 := X9.out.c0
  have x1 := X9.out.c1
  have x2 := X9.out.c2
  have x3 := X9.out.c3
  clear hHeld
  go_wp2
  refine bodyPost_ret (v := .tuple #[sipV a b s d, levV u r]) (by simp [results, Try.results20, go_sem, *]) rfl ⟨a, b, s, d, u, r, rfl, Chg.new (New.refl w) G9.out (fun i hi => by have := HL.out; omega)⟩

set_option maxRecDepth 100000 in
set_option maxHeartbeats 8000000 in
theorem drawTickSiphon_any (w : World) (ao : Option Addr) (n cap : Nat) (hb : Byts w ao n cap) :
    Calls Try.prog 18 #[.slice ao n cap] w fun e w' => ∃ (a b s d u : Int) (r : Bool) (x : Int), e = .returned (.tuple #[sipV a b s d, levV u r, .int .i64 x]) ∧ New w w' := by
  have HB := Lib.hid hb; clear hb
  obtain ⟨R, hR⟩ : ∃ R, R = w.heap.size := ⟨_, rfl⟩
  have HL := Lib.hid hR
  clear hR
  go_enter Try.func18, Try.ntmps18
  go_upto_region 1 with fail
  obtain ⟨w1, hw1⟩ : ∃ W, W = (w.alloc (.cells #[.int .i64 0, .int .i64 0, .int .i64 0, .int .i64 0] 25)).alloc (.cells #[.int .i64 0, .bool false] 27) := ⟨_, rfl⟩
  have X1 := Lib.hid (show Bx4 w1 R 0 0 0 0 by rw [hw1]; exact (Bx4.fresh w 0 0 0 0 _ HL.out.symm).new ((New.refl _).alloc _))
  have Y1 := Lib.hid (show Bx2 w1 (R + 1) 0 false by rw [hw1]; exact Bx2.fresh _ 0 false _ (by have := HL.out; simp; omega))
  have N1 := Lib.hid (show New w w1 by rw [hw1]; exact ((New.refl _).alloc _).alloc _)
  have B1 := Lib.hid (HB.out.new N1.out)
  have hs : w.heap.size = R := HL.out.symm
  try rw [hs]
  rw [← hw1]
  clear hw1 hs HB
  have zr1 := Y1.out.lt
  obtain ⟨c, hc⟩ : ∃ c, c = w1.heap.size := ⟨_, rfl⟩
  have HC := Lib.hid hc
  have zcr : R + 1 < c := by omega
  clear hc zr1
  have C1 := Lib.hid (Cur.fresh' B1.out HC.out.symm)
  go_upto_region 2 with fail
  rw [← HC.out]
  go_wp2_with fail
  refine (drSiphon_any _ c 0 C1.out (by omega)).mono ?_
  rintro e w2 ⟨a, b, s, d, rfl, hcc, hch⟩
  have C2 := Lib.hid hcc
  have X2 := Lib.hid ((X1.out.new ((New.refl w1).alloc _)).chg hch (by omega))
  have Y2 := Lib.hid ((Y1.out.new ((New.refl w1).alloc _)).chg hch (by omega))
  have G2 := Lib.hid (((Chg.of_new (P := fun b => b = c) N1.out).alloc _).trans hch)
  clear hcc hch C1 X1 Y1 B1 N1
  obtain ⟨S, hS⟩ : ∃ c, c = w2.heap.size := ⟨_, rfl⟩
  have HS := Lib.hid hS
  have zs : c < S := by have := C2.out.lt; omega
  clear hS
  go_upto_region 3 with fail
  rw [← HS.out]
  obtain ⟨w3, hw3⟩ : ∃ W, W = w2.alloc (.cells #[.int .i64 a, .int .i64 b, .int .i64 s, .int .i64 d] 25) := ⟨_, rfl⟩
  have Z3 := Lib.hid (show Bx4 w3 S a b s d by rw [hw3]; exact Bx4.fresh w2 a b s d _ HS.out.symm)
  have C3 := Lib.hid (show Cur w3 c 20 by rw [hw3]; exact (C2.out.mono (by omega)).new ((New.refl _).alloc _))
  have X3 := Lib.hid (show Bx4 w3 R 0 0 0 0 by rw [hw3]; exact X2.out.new ((New.refl _).alloc _))
  have Y3 := Lib.hid (show Bx2 w3 (R + 1) 0 false by rw [hw3]; exact Y2.out.new ((New.refl _).alloc _))
  have G3 := Lib.hid (show Chg (fun b => b = c) w w3 by rw [hw3]; exact G2.out.alloc _)
  rw [← hw3]
  clear hw3 C2 X2 Y2 G2
  refine wp_region_held_drew (S := fun w' => w'.cell? ⟨S, 0, none⟩ = some (.int .i64 a) ∧ w'.cell? ⟨S, 1, none⟩ = some (.int .i64 b) ∧ w'.cell? ⟨S, 2, none⟩ = some (.int .i64 s) ∧ w'.cell? ⟨S, 3, none⟩ = some (.int .i64 d)) (by kernel_rfl) ⟨Z3.out.c0, Z3.out.c1, Z3.out.c2, Z3.out.c3⟩ (fun hHeld => ?_)
  obtain ⟨y0, hy0⟩ : ∃ y, y = w3.drew := ⟨_, rfl⟩
  have m0 : New w3 y0 := by rw [hy0]; exact (New.refl _).drew
  rw [← hy0] at hHeld ⊢
  clear hy0
  have C4 := Lib.hid (C3.out.new m0)
  have X4 := Lib.hid (X3.out.new m0)
  have Y4 := Lib.hid (Y3.out.new m0)
  have G4 := Lib.hid (G3.out.trans (Chg.of_new m0))
  clear C3 X3 Y3 G3 Z3 m0
  refine wpAnyH_take (i := 0) (oi := ⟨some 12, _, _, _, _, _⟩) (v := ?_) rfl (by kernel_rfl) (by kernel_rfl) (by kernel_rfl) (fun _ _ _ h => h) (Or.inl ⟨by rfl, ?_⟩) hHeld ?_; rotate_left; (· (intro w_ hSw; (try dsimp only at hSw); (try go_split_ands); go_simp; (try with_reducible rfl))); (try simp only [Act.put, List.setIfInBounds_toArray, List.set_cons_zero, List.set_cons_succ])
  refine wpAnyH_take (i := 1) (oi := ⟨some 13, _, _, _, _, _⟩) (v := ?_) rfl (by kernel_rfl) (by kernel_rfl) (by kernel_rfl) (fun _ _ _ h => h) (Or.inl ⟨by rfl, ?_⟩) hHeld ?_; rotate_left; (· (intro w_ hSw; (try dsimp only at hSw); (try go_split_ands); go_simp; (try with_reducible rfl))); (try simp only [Act.put, List.setIfInBounds_toArray, List.set_cons_zero, List.set_cons_succ])
  refine wpAnyH_take (i := 2) (oi := ⟨some 14, _, _, _, _, _⟩) (v := ?_) rfl (by kernel_rfl) (by kernel_rfl) (by kernel_rfl) (fun _ _ _ h => h) (Or.inl ⟨by rfl, ?_⟩) hHeld ?_; rotate_left; (· (intro w_ hSw; (try dsimp only at hSw); (try go_split_ands); go_simp; (try with_reducible rfl))); (try simp only [Act.put, List.setIfInBounds_toArray, List.set_cons_zero, List.set_cons_succ])
  refine wpAnyH_take (i := 4) (oi := ⟨some 16, _, _, _, _, _⟩) (v := ?_) rfl (by kernel_rfl) (by kernel_rfl) (by kernel_rfl) (fun _ _ _ h => h) (Or.inl ⟨by rfl, ?_⟩) hHeld ?_; rotate_left; (· (intro w_ hSw; (try dsimp only at hSw); (try go_split_ands); go_simp; (try with_reducible rfl))); (try simp only [Act.put, List.setIfInBounds_toArray, List.set_cons_zero, List.set_cons_succ])
  refine wpAnyH_ready (rs := [3]) (by kernel_rfl) (by simp) ?_
  refine AllReadyH.cons (o := ⟨some 15, _, _, _, _, _⟩) rfl (fun K hK => ?_) AllReadyH.nil
  go_simp
  refine (drLevel_any _ c 20 a b s d C4.out (by omega)).mono ?_
  rintro e y1 ⟨u, r, rfl, hcc, hch⟩
  have C5 := Lib.hid hcc
  have X5 := Lib.hid (X4.out.chg hch (by omega))
  have Y5 := Lib.hid (Y4.out.chg hch (by omega))
  have G5 := Lib.hid (G4.out.trans hch)
  refine hK.out _ _ ⟨hch.cell hHeld.1 (by simp only; omega), hch.cell hHeld.2.1 (by simp only; omega), hch.cell hHeld.2.2.1 (by simp only; omega), hch.cell hHeld.2.2.2 (by simp only; omega)⟩ (fun hHeld => ?_)
  clear hK K hcc hch C4 X4 Y4 G4
  (try simp only [Act.put, List.setIfInBounds_toArray, List.set_cons_zero, List.set_cons_succ])
  refine wpAnyH_ready (rs := [5]) (by kernel_rfl) (by simp) ?_
  refine AllReadyH.cons (o := ⟨some 17, _, _, _, _, _⟩) rfl (fun K hK => ?_) AllReadyH.nil
  go_simp
  refine (drInflow_any _ c 40 C5.out (by omega)).mono ?_
  rintro e y2 ⟨x, rfl, -, hch⟩
  skip
  skip
  have X6 := Lib.hid (X5.out.chg hch (by omega))
  have Y6 := Lib.hid (Y5.out.chg hch (by omega))
  have G6 := Lib.hid (G5.out.trans hch)
  skip
  skip
  refine hK.out _ _ ⟨hch.cell hHeld.1 (by simp only; omega), hch.cell hHeld.2.1 (by simp only; omega), hch.cell hHeld.2.2.1 (by simp only; omega), hch.cell hHeld.2.2.2 (by simp only; omega)⟩ (fun hHeld => ?_)
  clear hK K hch C5 X5 Y5 G5 
  (try simp only [Act.put, List.setIfInBounds_toArray, List.set_cons_zero, List.set_cons_succ])
  refine wpAnyH_ready (rs := [6]) (by kernel_rfl) (by simp) ?_
  refine AllReadyH.cons (o := ⟨none, _, _, _, _, _⟩) rfl (fun K hK => ?_) AllReadyH.nil
  have q0 := X6.out.c0
  have q1 := X6.out.c1
  have q2 := X6.out.c2
  have q3 := X6.out.c3
  have p0 := X6.out.f0
  have p1 := X6.out.f1
  have p2 := X6.out.f2
  have p3 := X6.out.f3
  go_simp
  obtain ⟨y8, hz⟩ : ∃ z, z = (((y2.setCell ⟨R, 0, none⟩ (.int .i64 a)).setCell ⟨R, 1, none⟩ (.int .i64 b)).setCell ⟨R, 2, none⟩ (.int .i64 s)).setCell ⟨R, 3, none⟩ (.int .i64 d) := ⟨_, rfl⟩
  rw [← hz]
  have X8 := Lib.hid (show Bx4 y8 R a b s d by rw [hz]; exact (((X6.out.set0 a).set1 b).set2 s).set3 d)
  have Y8 := Lib.hid (show Bx2 y8 (R + 1) 0 false by rw [hz]; exact (((Y6.out.apart (by simp) _).apart (by simp) _).apart (by simp) _).apart (by simp) _)
  have G8 := Lib.hid (show Chg (fun b => b = c) w y8 by rw [hz]; exact (((G6.out.put3 (by simp only; have := HL.out; omega) _).put3 (by simp only; have := HL.out; omega) _).put3 (by simp only; have := HL.out; omega) _).put3 (by simp only; have := HL.out; omega) _)
  have k8 : ∀ B o v, B ≠ R → y2.cell? ⟨B, o, none⟩ = some v → y8.cell? ⟨B, o, none⟩ = some v := fun B o v hne hv => by rw [hz, set_other (by first | (simp; done) | (simp; omega)), set_other (by first | (simp; done) | (simp; omega)), set_other (by first | (simp; done) | (simp; omega)), set_other (by first | (simp; done) | (simp; omega))]; exact hv
  skip
  refine hK.out _ _ ⟨k8 _ _ _ (by omega) hHeld.1, k8 _ _ _ (by omega) hHeld.2.1, k8 _ _ _ (by omega) hHeld.2.2.1, k8 _ _ _ (by omega) hHeld.2.2.2⟩ (fun hHeld => ?_)
  clear hK K hz k8 q0 q1 q2 q3 p0 p1 p2 p3 X6 Y6 G6 
  (try simp only [Act.put])
  refine wpAnyH_ready (rs := [7]) (by kernel_rfl) (by simp) ?_
  refine AllReadyH.cons (o := ⟨none, _, _, _, _, _⟩) rfl (fun K hK => ?_) AllReadyH.nil
  have q0 := Y8.out.c0
  have q1 := Y8.out.c1
  have p0 := Y8.out.f0
  have p1 := Y8.out.f1
  go_simp
  obtain ⟨y9, hz⟩ : ∃ z, z = (y8.setCell ⟨R + 1, 0, none⟩ (.int .i64 u)).setCell ⟨R + 1, 1, none⟩ (.bool r) := ⟨_, rfl⟩
  rw [← hz]
  have X9 := Lib.hid (show Bx4 y9 R a b s d by rw [hz]; exact (X8.out.apart (by simp) _).apart (by simp) _)
  have q8 : y9.cell? ⟨R + 1, 0, none⟩ = some (.int .i64 u) := by rw [hz, set_other (by simp)]; exact set_same q0
  have q9 : y9.cell? ⟨R + 1, 1, none⟩ = some (.bool r) := by rw [hz]; exact set_same (by rw [set_other (by simp)]; exact q1)
  have G9 := Lib.hid (show Chg (fun b => b = c) w y9 by rw [hz]; exact (G8.out.put3 (by simp only; have := HL.out; omega) _).put3 (by simp only; have := HL.out; omega) _)
  skip
  have k9 : ∀ B o v, B ≠ R + 1 → y8.cell? ⟨B, o, none⟩ = some v → y9.cell? ⟨B, o, none⟩ = some v := fun B o v hne hv => by rw [hz, set_other (by first | (simp; done) | (simp; omega)), set_other (by first | (simp; done) | (simp; omega))]; exact hv
  refine hK.out _ _ ⟨k9 _ _ _ (by omega) hHeld.1, k9 _ _ _ (by omega) hHeld.2.1, k9 _ _ _ (by omega) hHeld.2.2.1, k9 _ _ _ (by omega) hHeld.2.2.2⟩ (fun hHeld => ?_)
  clear hK K hz q0 q1 p0 p1
  (try simp only [Act.put])
  refine wpAnyH_take (i := 8) (oi := ⟨some 4, _, _, _, _, _⟩) (v := ?_) rfl (by kernel_rfl) (by kernel_rfl) (by kernel_rfl) (fun _ _ _ h => h) (Or.inl ⟨by rfl, ?_⟩) hHeld ?_; rotate_left; (· (intro w_ hSw; (try dsimp only at hSw); (try go_split_ands); go_simp; (try with_reducible rfl))); (try simp only [Act.put, List.setIfInBounds_toArray, List.set_cons_zero, List.set_cons_succ])
  refine wpAnyH_done (by kernel_rfl) ?_ _
  have x0 := X9.out.c0
  have x1 := X9.out.c1
  have x2 := X9.out.c2
  have x3 := X9.out.c3
  clear hHeld
  go_wp2
  refine bodyPost_ret (v := .tuple #[sipV a b s d, levV u r, .int .i64 x]) (by simp [results, Try.results18, go_sem, *]) rfl ⟨a, b, s, d, u, r, x, rfl, Chg.new (New.refl w) G9.out (fun i hi => by have := HL.out; omega)⟩

set_option maxRecDepth 100000 in
set_option maxHeartbeats 8000000 in
theorem drawOutsOf_any (w : World) (ao : Option Addr) (n cap : Nat) (hb : Byts w ao n cap) :
    Calls Try.prog 6 #[.slice ao n cap] w fun e w' => ∃ (a b s d u : Int) (r : Bool) (oa : Option Addr) (m oc : Nat) (xs : List Int), e = .returned (.tuple #[sipV a b s d, levV u r, .slice oa m oc]) ∧ Ints w' oa m oc xs ∧ New w w' := by
  have HB := Lib.hid hb; clear hb
  obtain ⟨R, hR⟩ : ∃ R, R = w.heap.size := ⟨_, rfl⟩
  have HL := Lib.hid hR
  clear hR
  go_enter Try.func6, Try.ntmps6
  go_upto_region 1 with fail
  obtain ⟨w1, hw1⟩ : ∃ W, W = (w.alloc (.cells #[.int .i64 0, .int .i64 0, .int .i64 0, .int .i64 0] 25)).alloc (.cells #[.int .i64 0, .bool false] 27) := ⟨_, rfl⟩
  have X1 := Lib.hid (show Bx4 w1 R 0 0 0 0 by rw [hw1]; exact (Bx4.fresh w 0 0 0 0 _ HL.out.symm).new ((New.refl _).alloc _))
  have Y1 := Lib.hid (show Bx2 w1 (R + 1) 0 false by rw [hw1]; exact Bx2.fresh _ 0 false _ (by have := HL.out; simp; omega))
  have N1 := Lib.hid (show New w w1 by rw [hw1]; exact ((New.refl _).alloc _).alloc _)
  have B1 := Lib.hid (HB.out.new N1.out)
  have hs : w.heap.size = R := HL.out.symm
  try rw [hs]
  rw [← hw1]
  clear hw1 hs HB
  have zr1 := Y1.out.lt
  obtain ⟨c, hc⟩ : ∃ c, c = w1.heap.size := ⟨_, rfl⟩
  have HC := Lib.hid hc
  have zcr : R + 1 < c := by omega
  clear hc zr1
  have C1 := Lib.hid (Cur.fresh' B1.out HC.out.symm)
  go_upto_region 2 with fail
  rw [← HC.out]
  go_wp2_with fail
  refine (drSiphon_any _ c 0 C1.out (by omega)).mono ?_
  rintro e w2 ⟨a, b, s, d, rfl, hcc, hch⟩
  have C2 := Lib.hid hcc
  have X2 := Lib.hid ((X1.out.new ((New.refl w1).alloc _)).chg hch (by omega))
  have Y2 := Lib.hid ((Y1.out.new ((New.refl w1).alloc _)).chg hch (by omega))
  have G2 := Lib.hid (((Chg.of_new (P := fun b => b = c) N1.out).alloc _).trans hch)
  clear hcc hch C1 X1 Y1 B1 N1
  obtain ⟨S, hS⟩ : ∃ c, c = w2.heap.size := ⟨_, rfl⟩
  have HS := Lib.hid hS
  have zs : c < S := by have := C2.out.lt; omega
  clear hS
  go_upto_region 3 with fail
  rw [← HS.out]
  obtain ⟨w3, hw3⟩ : ∃ W, W = w2.alloc (.cells #[.int .i64 a, .int .i64 b, .int .i64 s, .int .i64 d] 25) := ⟨_, rfl⟩
  have Z3 := Lib.hid (show Bx4 w3 S a b s d by rw [hw3]; exact Bx4.fresh w2 a b s d _ HS.out.symm)
  have C3 := Lib.hid (show Cur w3 c 20 by rw [hw3]; exact (C2.out.mono (by omega)).new ((New.refl _).alloc _))
  have X3 := Lib.hid (show Bx4 w3 R 0 0 0 0 by rw [hw3]; exact X2.out.new ((New.refl _).alloc _))
  have Y3 := Lib.hid (show Bx2 w3 (R + 1) 0 false by rw [hw3]; exact Y2.out.new ((New.refl _).alloc _))
  have G3 := Lib.hid (show Chg (fun b => b = c) w w3 by rw [hw3]; exact G2.out.alloc _)
  rw [← hw3]
  clear hw3 C2 X2 Y2 G2
  refine wp_region_held_drew (S := fun w' => w'.cell? ⟨S, 0, none⟩ = some (.int .i64 a) ∧ w'.cell? ⟨S, 1, none⟩ = some (.int .i64 b) ∧ w'.cell? ⟨S, 2, none⟩ = some (.int .i64 s) ∧ w'.cell? ⟨S, 3, none⟩ = some (.int .i64 d)) (by kernel_rfl) ⟨Z3.out.c0, Z3.out.c1, Z3.out.c2, Z3.out.c3⟩ (fun hHeld => ?_)
  obtain ⟨y0, hy0⟩ : ∃ y, y = w3.drew := ⟨_, rfl⟩
  have m0 : New w3 y0 := by rw [hy0]; exact (New.refl _).drew
  rw [← hy0] at hHeld ⊢
  clear hy0
  have C4 := Lib.hid (C3.out.new m0)
  have X4 := Lib.hid (X3.out.new m0)
  have Y4 := Lib.hid (Y3.out.new m0)
  have G4 := Lib.hid (G3.out.trans (Chg.of_new m0))
  clear C3 X3 Y3 G3 Z3 m0
  refine wpAnyH_take (i := 0) (oi := ⟨some 12, _, _, _, _, _⟩) (v := ?_) rfl (by kernel_rfl) (by kernel_rfl) (by kernel_rfl) (fun _ _ _ h => h) (Or.inl ⟨by rfl, ?_⟩) hHeld ?_; rotate_left; (· (intro w_ hSw; (try dsimp only at hSw); (try go_split_ands); go_simp; (try with_reducible rfl))); (try simp only [Act.put, List.setIfInBounds_toArray, List.set_cons_zero, List.set_cons_succ])
  refine wpAnyH_take (i := 1) (oi := ⟨some 13, _, _, _, _, _⟩) (v := ?_) rfl (by kernel_rfl) (by kernel_rfl) (by kernel_rfl) (fun _ _ _ h => h) (Or.inl ⟨by rfl, ?_⟩) hHeld ?_; rotate_left; (· (intro w_ hSw; (try dsimp only at hSw); (try go_split_ands); go_simp; (try with_reducible rfl))); (try simp only [Act.put, List.setIfInBounds_toArray, List.set_cons_zero, List.set_cons_succ])
  refine wpAnyH_take (i := 2) (oi := ⟨some 14, _, _, _, _, _⟩) (v := ?_) rfl (by kernel_rfl) (by kernel_rfl) (by kernel_rfl) (fun _ _ _ h => h) (Or.inl ⟨by rfl, ?_⟩) hHeld ?_; rotate_left; (· (intro w_ hSw; (try dsimp only at hSw); (try go_split_ands); go_simp; (try with_reducible rfl))); (try simp only [Act.put, List.setIfInBounds_toArray, List.set_cons_zero, List.set_cons_succ])
  refine wpAnyH_take (i := 4) (oi := ⟨some 16, _, _, _, _, _⟩) (v := ?_) rfl (by kernel_rfl) (by kernel_rfl) (by kernel_rfl) (fun _ _ _ h => h) (Or.inl ⟨by rfl, ?_⟩) hHeld ?_; rotate_left; (· (intro w_ hSw; (try dsimp only at hSw); (try go_split_ands); go_simp; (try with_reducible rfl))); (try simp only [Act.put, List.setIfInBounds_toArray, List.set_cons_zero, List.set_cons_succ])
  refine wpAnyH_ready (rs := [3]) (by kernel_rfl) (by simp) ?_
  refine AllReadyH.cons (o := ⟨some 15, _, _, _, _, _⟩) rfl (fun K hK => ?_) AllReadyH.nil
  go_simp
  refine (drLevel_any _ c 20 a b s d C4.out (by omega)).mono ?_
  rintro e y1 ⟨u, r, rfl, hcc, hch⟩
  have C5 := Lib.hid hcc
  have X5 := Lib.hid (X4.out.chg hch (by omega))
  have Y5 := Lib.hid (Y4.out.chg hch (by omega))
  have G5 := Lib.hid (G4.out.trans hch)
  refine hK.out _ _ ⟨hch.cell hHeld.1 (by simp only; omega), hch.cell hHeld.2.1 (by simp only; omega), hch.cell hHeld.2.2.1 (by simp only; omega), hch.cell hHeld.2.2.2 (by simp only; omega)⟩ (fun hHeld => ?_)
  clear hK K hcc hch C4 X4 Y4 G4
  (try simp only [Act.put, List.setIfInBounds_toArray, List.set_cons_zero, List.set_cons_succ])
  refine wpAnyH_ready (rs := [5]) (by kernel_rfl) (by simp) ?_
  refine AllReadyH.cons (o := ⟨some 17, _, _, _, _, _⟩) rfl (fun K hK => ?_) AllReadyH.nil
  go_simp
  refine (drInflows_any _ c 40 C5.out (by omega)).mono ?_
  rintro e y2 ⟨v, rfl, hrow, -, hch⟩
  obtain ⟨oa, m, oc, xs, rfl, _, hown⟩ := hrow.ints
  have HX := Lib.hid hown
  have X6 := Lib.hid (X5.out.chg hch (by omega))
  have Y6 := Lib.hid (Y5.out.chg hch (by omega))
  have G6 := Lib.hid (G5.out.trans hch)
  have z12 := G5.out.size
  have z5 := Y5.out.lt
  refine hK.out _ _ ⟨hch.cell hHeld.1 (by simp only; omega), hch.cell hHeld.2.1 (by simp only; omega), hch.cell hHeld.2.2.1 (by simp only; omega), hch.cell hHeld.2.2.2 (by simp only; omega)⟩ (fun hHeld => ?_)
  clear hK K hch C5 X5 Y5 G5 hrow hown
  (try simp only [Act.put, List.setIfInBounds_toArray, List.set_cons_zero, List.set_cons_succ])
  refine wpAnyH_ready (rs := [6]) (by kernel_rfl) (by simp) ?_
  refine AllReadyH.cons (o := ⟨none, _, _, _, _, _⟩) rfl (fun K hK => ?_) AllReadyH.nil
  have q0 := X6.out.c0
  have q1 := X6.out.c1
  have q2 := X6.out.c2
  have q3 := X6.out.c3
  have p0 := X6.out.f0
  have p1 := X6.out.f1
  have p2 := X6.out.f2
  have p3 := X6.out.f3
  go_simp
  obtain ⟨y8, hz⟩ : ∃ z, z = (((y2.setCell ⟨R, 0, none⟩ (.int .i64 a)).setCell ⟨R, 1, none⟩ (.int .i64 b)).setCell ⟨R, 2, none⟩ (.int .i64 s)).setCell ⟨R, 3, none⟩ (.int .i64 d) := ⟨_, rfl⟩
  rw [← hz]
  have X8 := Lib.hid (show Bx4 y8 R a b s d by rw [hz]; exact (((X6.out.set0 a).set1 b).set2 s).set3 d)
  have Y8 := Lib.hid (show Bx2 y8 (R + 1) 0 false by rw [hz]; exact (((Y6.out.apart (by simp) _).apart (by simp) _).apart (by simp) _).apart (by simp) _)
  have G8 := Lib.hid (show Chg (fun b => b = c) w y8 by rw [hz]; exact (((G6.out.put3 (by simp only; have := HL.out; omega) _).put3 (by simp only; have := HL.out; omega) _).put3 (by simp only; have := HL.out; omega) _).put3 (by simp only; have := HL.out; omega) _)
  have k8 : ∀ B o v, B ≠ R → y2.cell? ⟨B, o, none⟩ = some v → y8.cell? ⟨B, o, none⟩ = some v := fun B o v hne hv => by rw [hz, set_other (by first | (simp; done) | (simp; omega)), set_other (by first | (simp; done) | (simp; omega)), set_other (by first | (simp; done) | (simp; omega)), set_other (by first | (simp; done) | (simp; omega))]; exact hv
  have O8 := Lib.hid (HX.out.chg (show Chg (fun b => b = R) y2 y8 by rw [hz]; exact (((Chg.setCell (p := ⟨R, 0, none⟩) _).trans (Chg.setCell (p := ⟨R, 1, none⟩) _)).trans (Chg.setCell (p := ⟨R, 2, none⟩) _)).trans (Chg.setCell (p := ⟨R, 3, none⟩) _)) (fun b h1 _ => by omega))
  refine hK.out _ _ ⟨k8 _ _ _ (by omega) hHeld.1, k8 _ _ _ (by omega) hHeld.2.1, k8 _ _ _ (by omega) hHeld.2.2.1, k8 _ _ _ (by omega) hHeld.2.2.2⟩ (fun hHeld => ?_)
  clear hK K hz k8 q0 q1 q2 q3 p0 p1 p2 p3 X6 Y6 G6 HX
  (try simp only [Act.put])
  refine wpAnyH_ready (rs := [7]) (by kernel_rfl) (by simp) ?_
  refine AllReadyH.cons (o := ⟨none, _, _, _, _, _⟩) rfl (fun K hK => ?_) AllReadyH.nil
  have q0 := Y8.out.c0
  have q1 := Y8.out.c1
  have p0 := Y8.out.f0
  have p1 := Y8.out.f1
  go_simp
  obtain ⟨y9, hz⟩ : ∃ z, z = (y8.setCell ⟨R + 1, 0, none⟩ (.int .i64 u)).setCell ⟨R + 1, 1, none⟩ (.bool r) := ⟨_, rfl⟩
  rw [← hz]
  have X9 := Lib.hid (show Bx4 y9 R a b s d by rw [hz]; exact (X8.out.apart (by simp) _).apart (by simp) _)
  have q8 : y9.cell? ⟨R + 1, 0, none⟩ = some (.int .i64 u) := by rw [hz, set_other (by simp)]; exact set_same q0
  have q9 : y9.cell? ⟨R + 1, 1, none⟩ = some (.bool r) := by rw [hz]; exact set_same (by rw [set_other (by simp)]; exact q1)
  have G9 := Lib.hid (show Chg (fun b => b = c) w y9 by rw [hz]; exact (G8.out.put3 (by simp only; have := HL.out; omega) _).put3 (by simp only; have := HL.out; omega) _)
  have O9 := Lib.hid (O8.out.chg (show Chg (fun b => b = R + 1) y8 y9 by rw [hz]; exact (Chg.setCell (p := ⟨R + 1, 0, none⟩) _).trans (Chg.setCell (p := ⟨R + 1, 1, none⟩) _)) (fun b h1 _ => by omega))
  have k9 : ∀ B o v, B ≠ R + 1 → y8.cell? ⟨B, o, none⟩ = some v → y9.cell? ⟨B, o, none⟩ = some v := fun B o v hne hv => by rw [hz, set_other (by first | (simp; done) | (simp; omega)), set_other (by first | (simp; done) | (simp; omega))]; exact hv
  refine hK.out _ _ ⟨k9 _ _ _ (by omega) hHeld.1, k9 _ _ _ (by omega) hHeld.2.1, k9 _ _ _ (by omega) hHeld.2.2.1, k9 _ _ _ (by omega) hHeld.2.2.2⟩ (fun hHeld => ?_)
  clear hK K hz q0 q1 p0 p1
  (try simp only [Act.put])
  refine wpAnyH_take (i := 8) (oi := ⟨some 4, _, _, _, _, _⟩) (v := ?_) rfl (by kernel_rfl) (by kernel_rfl) (by kernel_rfl) (fun _ _ _ h => h) (Or.inl ⟨by rfl, ?_⟩) hHeld ?_; rotate_left; (· (intro w_ hSw; (try dsimp only at hSw); (try go_split_ands); go_simp; (try with_reducible rfl))); (try simp only [Act.put, List.setIfInBounds_toArray, List.set_cons_zero, List.set_cons_succ])
  refine wpAnyH_done (by kernel_rfl) ?_ _
  have x0 := X9.out.c0
  have x1 := X9.out.c1
  have x2 := X9.out.c2
  have x3 := X9.out.c3
  clear hHeld
  go_wp2
  refine bodyPost_ret (v := .tuple #[sipV a b s d, levV u r, .slice oa m oc]) (by simp [results, Try.results6, go_sem, *]) rfl ⟨a, b, s, d, u, r, oa, m, oc, xs, rfl, O9.out.ints, Chg.new (New.refl w) G9.out (fun i hi => by have := HL.out; omega)⟩
end Go.Proofs.Ytfhpmihjfojbnaa
