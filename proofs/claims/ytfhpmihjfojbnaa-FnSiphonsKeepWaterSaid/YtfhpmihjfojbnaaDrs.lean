/- What is drawn of siphons, levels and inflows. -/
import Derived.Test.YtfhpmihjfojbnaaDrr
import Derived.Test.YtfhpmihjfojbnaaSipS
namespace Go.Proofs.Ytfhpmihjfojbnaa
open Go.RowKit Go.IntWalk

theorem Chg.put3 {P : Nat → Prop} {w w' : World} (h : Chg P w w') {p : Addr} (hp : w.heap.size ≤ p.block) (u : Value) : Chg P w (w'.setCell p u) :=
  have s := Chg.setCell (w := w') (p := p) u
  ⟨s.os.trans h.os, s.tape.trans h.tape, s.output.trans h.output, Nat.le_trans h.size s.size, fun k hk hP => (s.block k (Nat.lt_of_lt_of_le hk h.size) (by omega)).trans (h.block k hk hP)⟩
theorem Cur.store3 {w : World} {c K : Nat} (h : Cur w c K) {p : Addr} (hp : c < p.block) (u : Value) : Cur (w.setCell p u) c K :=
  h.kept fun i hi => (Chg.setCell (w := w) (p := p) u).block i (Nat.lt_of_le_of_lt hi h.lt) (by omega)
/-- A box of four numbers. -/
structure Bx4 (w : World) (B : Nat) (a b c d : Int) : Prop where
  c0 : w.cell? ⟨B, 0, none⟩ = some (.int .i64 a)
  c1 : w.cell? ⟨B, 1, none⟩ = some (.int .i64 b)
  c2 : w.cell? ⟨B, 2, none⟩ = some (.int .i64 c)
  c3 : w.cell? ⟨B, 3, none⟩ = some (.int .i64 d)
  f0 : w.frozen? ⟨B, 0, none⟩ = false
  f1 : w.frozen? ⟨B, 1, none⟩ = false
  f2 : w.frozen? ⟨B, 2, none⟩ = false
  f3 : w.frozen? ⟨B, 3, none⟩ = false
theorem Bx4.lt {w : World} {B : Nat} {a b c d : Int} (h : Bx4 w B a b c d) : B < w.heap.size := World.block_lt_of_cell? _ _ h.c0
theorem Bx4.kept {w w' : World} {B : Nat} {a b c d : Int} (h : Bx4 w B a b c d) (k : w'.heap[B]? = w.heap[B]?) : Bx4 w' B a b c d :=
  ⟨(World.cell?_of_block (a := ⟨B, 0, none⟩) k).trans h.c0, (World.cell?_of_block (a := ⟨B, 1, none⟩) k).trans h.c1, (World.cell?_of_block (a := ⟨B, 2, none⟩) k).trans h.c2, (World.cell?_of_block (a := ⟨B, 3, none⟩) k).trans h.c3, (World.frozen?_of_block (a := ⟨B, 0, none⟩) k).trans h.f0, (World.frozen?_of_block (a := ⟨B, 1, none⟩) k).trans h.f1, (World.frozen?_of_block (a := ⟨B, 2, none⟩) k).trans h.f2, (World.frozen?_of_block (a := ⟨B, 3, none⟩) k).trans h.f3⟩
theorem Bx4.new {w w' : World} {B : Nat} {a b c d : Int} (h : Bx4 w B a b c d) (k : New w w') : Bx4 w' B a b c d := h.kept (k.block _ h.lt)
theorem Bx4.chg {P : Nat → Prop} {w w' : World} {B : Nat} {a b c d : Int} (h : Bx4 w B a b c d) (k : Chg P w w') (hP : ¬ P B) : Bx4 w' B a b c d := h.kept (k.block _ h.lt hP)
theorem Bx4.fresh (w : World) (a b c d : Int) (t : TypeId) {B : Nat} (hB : w.heap.size = B) : Bx4 (w.alloc (.cells #[.int .i64 a, .int .i64 b, .int .i64 c, .int .i64 d] t)) B a b c d := by
  subst hB
  refine ⟨?_, ?_, ?_, ?_, ?_, ?_, ?_, ?_⟩ <;> simp
theorem Bx4.apart {w : World} {B : Nat} {a b c d : Int} (h : Bx4 w B a b c d) {p : Addr} (hp : p.block ≠ B) (u : Value) : Bx4 (w.setCell p u) B a b c d :=
  h.kept ((Chg.setCell (w := w) (p := p) u).block B h.lt (by omega))

theorem Bx4.set0 {w : World} {B : Nat} {a b c d : Int} (h : Bx4 w B a b c d) (y : Int) : Bx4 (w.setCell ⟨B, 0, none⟩ (.int .i64 y)) B y b c d :=
  ⟨set_same (by exact h.c0), (set_other (by simp)).trans h.c1, (set_other (by simp)).trans h.c2, (set_other (by simp)).trans h.c3, by simpa [World.frozen?_setCell] using h.f0, by simpa [World.frozen?_setCell] using h.f1, by simpa [World.frozen?_setCell] using h.f2, by simpa [World.frozen?_setCell] using h.f3⟩
theorem Bx4.set1 {w : World} {B : Nat} {a b c d : Int} (h : Bx4 w B a b c d) (y : Int) : Bx4 (w.setCell ⟨B, 1, none⟩ (.int .i64 y)) B a y c d :=
  ⟨(set_other (by simp)).trans h.c0, set_same (by exact h.c1), (set_other (by simp)).trans h.c2, (set_other (by simp)).trans h.c3, by simpa [World.frozen?_setCell] using h.f0, by simpa [World.frozen?_setCell] using h.f1, by simpa [World.frozen?_setCell] using h.f2, by simpa [World.frozen?_setCell] using h.f3⟩
theorem Bx4.set2 {w : World} {B : Nat} {a b c d : Int} (h : Bx4 w B a b c d) (y : Int) : Bx4 (w.setCell ⟨B, 2, none⟩ (.int .i64 y)) B a b y d :=
  ⟨(set_other (by simp)).trans h.c0, (set_other (by simp)).trans h.c1, set_same (by exact h.c2), (set_other (by simp)).trans h.c3, by simpa [World.frozen?_setCell] using h.f0, by simpa [World.frozen?_setCell] using h.f1, by simpa [World.frozen?_setCell] using h.f2, by simpa [World.frozen?_setCell] using h.f3⟩
theorem Bx4.set3 {w : World} {B : Nat} {a b c d : Int} (h : Bx4 w B a b c d) (y : Int) : Bx4 (w.setCell ⟨B, 3, none⟩ (.int .i64 y)) B a b c y :=
  ⟨(set_other (by simp)).trans h.c0, (set_other (by simp)).trans h.c1, (set_other (by simp)).trans h.c2, set_same (by exact h.c3), by simpa [World.frozen?_setCell] using h.f0, by simpa [World.frozen?_setCell] using h.f1, by simpa [World.frozen?_setCell] using h.f2, by simpa [World.frozen?_setCell] using h.f3⟩

theorem drInflow_any (w : World) (c K : Nat) (h : Cur w c K) (hK : K ≤ 950000) :
    Calls Try.prog 53 #[.pointer (some ⟨c, 0, none⟩)] w fun e w' => ∃ x : Int, e = .returned (.int .i64 x) ∧ Cur w' c (K + 10) ∧ Chg (fun b => b = c) w w' := by
  have H := Lib.hid h; clear h
  go_enter Try.func53, Try.ntmps53
  go_wp2_with fail
  refine (one_any _ c K 14 H.out (by omega) (by omega)).mono ?_
  rintro e w1 ⟨b, rfl, hcc, hch⟩
  have C1 := Lib.hid hcc
  have G1 := Lib.hid hch
  have zc1 := hcc.lt
  clear hcc hch H
  cases b with
  | true =>
    go_wp2_with fail
    refine (among_any _ c _ _ _ _ [-1, 60, 61, 4611686018427387904] (C1.out.new (by repeat (first | with_reducible exact New.refl _ | with_reducible assumption | refine New.drewN ?_ _ | refine New.drew ?_ | refine New.alloc ?_ _ | refine New.setCell ?_ (by first | omega | (simp; omega) | (simp; done)) _ | (refine New.trans ?_ (by assumption))))) (ints_at' _ _ _ rfl (by decide)) (fun b o e => by cases e; omega) (by decide) (by decide) (by omega)).mono ?_
    rintro e w2 ⟨y, rfl, -, hcc, hch⟩
    have C2 := Lib.hid hcc
    have G2 := Lib.hid ((G1.out.alloc _).trans hch)
    clear hcc hch C1 G1
    go_wp2
    go_ret
    exact ⟨y, rfl, C2.out.mono (by omega), G2.out⟩
  | false =>
    go_wp2_with fail
    refine (pick_any _ c _ 9 C1.out (by omega) (by omega)).mono ?_
    rintro e w2 ⟨y, rfl, -, hcc, hch⟩
    have C2 := Lib.hid hcc
    have G2 := Lib.hid (G1.out.trans hch)
    clear hcc hch C1 G1
    go_wp2
    go_ret
    exact ⟨y, rfl, C2.out.mono (by omega), G2.out⟩

set_option maxRecDepth 100000 in
set_option maxHeartbeats 8000000 in
theorem drInflows_any (w : World) (c K : Nat) (h : Cur w c K) (hK : K ≤ 900000) :
    Calls Try.prog 46 #[.pointer (some ⟨c, 0, none⟩)] w fun e w' => ∃ v : Value, e = .returned v ∧ RowD w' w.heap.size v ∧ Cur w' c (K + 90) ∧ Chg (fun b => b = c) w w' := by
  obtain ⟨i0, hi, hz0, hz1, hz2⟩ := info_parts Try.infoInt
  have zc := h.lt
  have H := Lib.hid h; clear h
  go_enter Try.func46, Try.ntmps46
  go_wp2_with fail
  refine (pick_any _ c K 14 H.out (by omega) (by omega)).mono ?_
  rintro e w2 ⟨k0, rfl, hk0, hcc, hch⟩
  have C2 := Lib.hid hcc
  have G2 := Lib.hid hch
  clear hcc hch H
  obtain ⟨lo, hlo⟩ : ∃ lo, lo = w.heap.size := ⟨_, rfl⟩
  rw [← hlo] at zc
  have HL := Lib.hid hlo; clear hlo
  go_wp2
  go_loopw [3, 4] (fun vo vk wr => ∃ (j k : Nat) (xs : List Int), vk = .int .i64 (k : Int) ∧ k + j ≤ 14 ∧ xs.length = j ∧ Cur wr c (K + 4 + 4 * j) ∧ wr.ownsRow lo 3 1 vo j (xs.map (Value.int .i64)) ∧ Chg (fun b => b = c) w wr) (fun _ vk _ => (intOf vk).toNat)
  case atStart =>
    obtain ⟨k, rfl⟩ := Int.eq_ofNat_of_zero_le hk0.1
    exact ⟨0, k, [], rfl, by omega, rfl, C2.out.mono (by omega), ⟨rfl, .inl ⟨rfl, rfl⟩⟩, G2.out⟩
  case round =>
    obtain ⟨j, k, xs, rfl, hkj, hlen, hcc, hro, hch⟩ := hrel
    have CR := Lib.hid hcc
    have RO := Lib.hid hro
    have GR := Lib.hid hch
    clear hcc hro hch
    by_cases hk : 0 < k
    · have hkk : (0 : Int) < k := by omega
      have gk : IntKind.i64.wrap ((k : Int) - 1) = (k : Int) - 1 := i64_in _ (by omega)
      go_wp2_with fail
      refine (one_any _ c (K + 4 + 4 * j) 4 CR.out (by omega) (by omega)).mono ?_
      rintro e w3 ⟨b3, rfl, hcc, hch⟩
      have C3 := Lib.hid hcc
      have R3 := Lib.hid (ownsRow_chg RO.out hch (fun b hb => by omega))
      have G3 := Lib.hid (GR.out.trans hch)
      clear hcc hch CR RO GR
      have zlo : lo ≤ w3.heap.size := by have := G3.out.size; have := HL.out; omega
      cases b3 with
      | true =>
        go_wp2_with (at_builtin; (refine wpList_append_lies _ (by rfl) (.tmp 17) (.tmp 19) 28 (by rfl) lo 3 i0 (.int .i64 0) 1 8 Try.underlying28 hi hz0 hz1 hz2 rfl (by decide) _ j _ (by rfl) (ownsRow_new R3.out (by repeat (first | with_reducible exact New.refl _ | with_reducible assumption | refine New.drewN ?_ _ | refine New.drew ?_ | refine New.alloc ?_ _ | refine New.setCell ?_ (by first | omega | (simp; omega) | (simp; done)) _ | (refine New.trans ?_ (by assumption))))) _ _ _ [.int .i64 0] (by rfl) (by rfl) (World.news_of_block (cs := #[.int .i64 0]) (t := 3) (fr := (0, 0)) (heap_alloc_at (by simp))) (by simp [Value.oneCell']) (by omega) (by unfold maxLen; omega) (by omega) (by first | omega | (simp; omega) | (simp; done)) _ rfl ?_; intro g cap w7 ho hg hb' hlt'; have G7 := Lib.hid (Chg.grown (G3.out.alloc _) (ownsRow_new R3.out (by repeat (first | with_reducible exact New.refl _ | with_reducible assumption | refine New.drewN ?_ _ | refine New.drew ?_ | refine New.alloc ?_ _ | refine New.setCell ?_ (by first | omega | (simp; omega) | (simp; done)) _ | (refine New.trans ?_ (by assumption))))) (by have := HL.out; omega) hg); have RO7 := Lib.hid ho; have C7 := Lib.hid (Cur.grown (C3.out.new ((New.refl w3).alloc _)) (ownsRow_new R3.out (by repeat (first | with_reducible exact New.refl _ | with_reducible assumption | refine New.drewN ?_ _ | refine New.drew ?_ | refine New.alloc ?_ _ | refine New.setCell ?_ (by first | omega | (simp; omega) | (simp; done)) _ | (refine New.trans ?_ (by assumption))))) zc hg); clear ho hg hb' hlt'))
        go_roundw
        case rel => exact ⟨j + 1, k - 1, xs ++ [0], by go_num, by omega, by simp [hlen], by have := C7.out; exact this.mono (by omega), by rw [List.map_append]; exact RO7.out, G7.out⟩
        case measure => simp [intOf]; omega
      | false =>
        go_wp2_with fail
        refine (pick_any _ c _ 7 C3.out (by omega) (by omega)).mono ?_
        rintro e w4 ⟨x, rfl, -, hcc, hch⟩
        have C4 := Lib.hid hcc
        have R4 := Lib.hid (ownsRow_chg R3.out hch (fun b hb => by omega))
        have G4 := Lib.hid (G3.out.trans hch)
        clear hcc hch C3 R3 G3 zlo
        have zlo : lo ≤ w4.heap.size := by have := G4.out.size; have := HL.out; omega
        go_wp2_with (at_builtin; (refine wpList_append_lies _ (by rfl) (.tmp 17) (.tmp 19) 28 (by rfl) lo 3 i0 (.int .i64 0) 1 8 Try.underlying28 hi hz0 hz1 hz2 rfl (by decide) _ j _ (by rfl) (ownsRow_new R4.out (by repeat (first | with_reducible exact New.refl _ | with_reducible assumption | refine New.drewN ?_ _ | refine New.drew ?_ | refine New.alloc ?_ _ | refine New.setCell ?_ (by first | omega | (simp; omega) | (simp; done)) _ | (refine New.trans ?_ (by assumption))))) _ _ _ [.int .i64 x] (by rfl) (by rfl) (World.news_of_block (cs := #[.int .i64 x]) (t := 3) (fr := (0, 0)) (heap_alloc_at (by simp))) (by simp [Value.oneCell']) (by omega) (by unfold maxLen; omega) (by omega) (by first | omega | (simp; omega) | (simp; done)) _ rfl ?_; intro g cap w7 ho hg hb' hlt'; have G7 := Lib.hid (Chg.grown (G4.out.alloc _) (ownsRow_new R4.out (by repeat (first | with_reducible exact New.refl _ | with_reducible assumption | refine New.drewN ?_ _ | refine New.drew ?_ | refine New.alloc ?_ _ | refine New.setCell ?_ (by first | omega | (simp; omega) | (simp; done)) _ | (refine New.trans ?_ (by assumption))))) (by have := HL.out; omega) hg); have RO7 := Lib.hid ho; have C7 := Lib.hid (Cur.grown (C4.out.new ((New.refl w4).alloc _)) (ownsRow_new R4.out (by repeat (first | with_reducible exact New.refl _ | with_reducible assumption | refine New.drewN ?_ _ | refine New.drew ?_ | refine New.alloc ?_ _ | refine New.setCell ?_ (by first | omega | (simp; omega) | (simp; done)) _ | (refine New.trans ?_ (by assumption))))) zc hg); clear ho hg hb' hlt'))
        go_roundw
        case rel => exact ⟨j + 1, k - 1, xs ++ [x], by go_num, by omega, by simp [hlen], by have := C7.out; exact this.mono (by omega), by rw [List.map_append]; exact RO7.out, G7.out⟩
        case measure => simp [intOf]; omega
    · obtain rfl : k = 0 := by omega
      go_wp2_with fail
      refine (pick_any _ c (K + 4 + 4 * j) 18 CR.out (by omega) (by omega)).mono ?_
      rintro e w3 ⟨z, rfl, -, hcc, hch⟩
      have C3 := Lib.hid hcc
      have R3 := Lib.hid (ownsRow_chg RO.out hch (fun b hb => by omega))
      have G3 := Lib.hid (GR.out.trans hch)
      clear hcc hch CR RO GR
      have zlo : lo ≤ w3.heap.size := by have := G3.out.size; have := HL.out; omega
      by_cases e0 : z = 0
      · subst e0
        go_wp2_with fail
        refine (drInflow_any _ c _ C3.out (by omega)).mono ?_
        rintro e w4 ⟨y, rfl, hcc, hch⟩
        have C4 := Lib.hid hcc
        have R4 := Lib.hid (ownsRow_chg R3.out hch (fun b hb => by omega))
        have G4 := Lib.hid (G3.out.trans hch)
        clear hcc hch C3 R3 G3
        have zlo4 : lo ≤ w4.heap.size := by have := G4.out.size; have := HL.out; omega
        go_wp2_with (at_builtin; (refine wpList_append_lies _ (by rfl) (.tmp 25) (.tmp 28) 28 (by rfl) lo 3 i0 (.int .i64 0) 1 8 Try.underlying28 hi hz0 hz1 hz2 rfl (by decide) _ j _ (by rfl) (ownsRow_new R4.out (by repeat (first | with_reducible exact New.refl _ | with_reducible assumption | refine New.drewN ?_ _ | refine New.drew ?_ | refine New.alloc ?_ _ | refine New.setCell ?_ (by first | omega | (simp; omega) | (simp; done)) _ | (refine New.trans ?_ (by assumption))))) _ _ _ [.int .i64 y] (by rfl) (by rfl) (World.news_of_block (cs := #[.int .i64 y]) (t := 3) (fr := (0, 0)) (heap_alloc_at (by simp))) (by simp [Value.oneCell']) (by omega) (by unfold maxLen; omega) (by omega) (by first | omega | (simp; omega) | (simp; done)) _ rfl ?_; intro g cap w7 ho hg hb' hlt'; have G7 := Lib.hid (Chg.grown (G4.out.alloc _) (ownsRow_new R4.out (by repeat (first | with_reducible exact New.refl _ | with_reducible assumption | refine New.drewN ?_ _ | refine New.drew ?_ | refine New.alloc ?_ _ | refine New.setCell ?_ (by first | omega | (simp; omega) | (simp; done)) _ | (refine New.trans ?_ (by assumption))))) (by have := HL.out; omega) hg); have RO7 := Lib.hid ho; have C7 := Lib.hid (Cur.grown (C4.out.new ((New.refl w4).alloc _)) (ownsRow_new R4.out (by repeat (first | with_reducible exact New.refl _ | with_reducible assumption | refine New.drewN ?_ _ | refine New.drew ?_ | refine New.alloc ?_ _ | refine New.setCell ?_ (by first | omega | (simp; omega) | (simp; done)) _ | (refine New.trans ?_ (by assumption))))) zc hg); clear ho hg hb' hlt'))
        go_ret
        exact ⟨_, rfl, ⟨j + 1, xs ++ [y], by omega, by rw [← HL.out, List.map_append]; exact RO7.out⟩, C7.out.mono (by omega), G7.out⟩
      · by_cases e1 : z = 1
        · subst e1
          go_wp2_with fail
          refine (pick_any _ c _ 2 C3.out (by omega) (by omega)).mono ?_
          rintro e w4 ⟨y, rfl, hy, hcc, hch⟩
          have C4 := Lib.hid hcc
          have G4 := Lib.hid (G3.out.trans hch)
          clear hcc hch C3 R3 G3
          have zlo4 : lo ≤ w4.heap.size := by have := G4.out.size; have := HL.out; omega
          obtain ⟨m, rfl⟩ := Int.eq_ofNat_of_zero_le hy.1
          have gm : IntKind.i64.wrap (100 + (m : Int)) = ((100 + m : Nat) : Int) := by rw [i64_in _ (by omega)]; push_cast; rfl
          have hmk := run_makeD (n := 100 + m) (by omega) w4
          have RR := Lib.hid (made_row w4 (100 + m) (lo := lo) zlo4 (by omega))
          clear hy
          obtain ⟨nn, hnn⟩ : ∃ nn, nn = 100 + m := ⟨_, rfl⟩
          rw [← hnn] at gm hmk RR
          clear hnn
          go_wp2
          go_ret
          exact ⟨_, rfl, by rw [← HL.out]; have q := RR.out; rw [Nat.mul_one] at q; exact q, (C4.out.new ((New.refl _).alloc _)).mono (by omega), G4.out.alloc _⟩
        · go_wp2
          go_ret
          exact ⟨_, rfl, ⟨j, xs, by omega, by rw [← HL.out]; exact R3.out⟩, C3.out.mono (by omega), G3.out⟩

set_option maxRecDepth 100000 in
set_option maxHeartbeats 8000000 in
theorem drSiphon_any (w : World) (c K : Nat) (h : Cur w c K) (hK : K ≤ 900000) :
    Calls Try.prog 44 #[.pointer (some ⟨c, 0, none⟩)] w fun e w' => ∃ a b s d : Int, e = .returned (sipV a b s d) ∧ Cur w' c (K + 20) ∧ Chg (fun b => b = c) w w' := by
  have zc := h.lt
  have H := Lib.hid h; clear h
  obtain ⟨R, hR⟩ : ∃ R, R = w.heap.size := ⟨_, rfl⟩
  have HL := Lib.hid hR
  rw [← hR] at zc
  clear hR
  go_enter Try.func44, Try.ntmps44
  go_wp2_with fail
  refine (pick_any _ c K 12 (H.out.new (by repeat (first | with_reducible exact New.refl _ | with_reducible assumption | refine New.drewN ?_ _ | refine New.drew ?_ | refine New.alloc ?_ _ | refine New.setCell ?_ (by first | omega | (simp; omega) | (simp; done)) _ | (refine New.trans ?_ (by assumption))))) (by omega) (by omega)).mono ?_
  rintro e w1 ⟨r0, rfl, hr0, hcc, hch⟩
  have C1 := Lib.hid hcc
  have G1 := Lib.hid ((Chg.of_new ((New.refl w).alloc _)).trans hch)
  have R1 := Lib.hid ((Bx4.fresh w 0 0 0 0 25 HL.out.symm).chg hch (by omega))
  clear hcc hch H
  obtain ⟨sz, hsz⟩ : ∃ x, x = 1 + r0 := ⟨_, rfl⟩
  have g1 : IntKind.i64.wrap (1 + r0) = sz := by rw [hsz]; exact i64_in _ (by omega)
  have szb : 1 ≤ sz ∧ sz ≤ 12 := by omega
  clear hsz hr0
  rw [← HL.out]
  go_wp2_with fail
  refine (pick_any _ c _ sz C1.out (by omega) (by omega)).mono ?_
  rintro e w2 ⟨low, rfl, hlow, hcc, hch⟩
  have C2 := Lib.hid hcc
  have G2 := Lib.hid (G1.out.trans hch)
  have R2 := Lib.hid (R1.out.chg hch (by omega))
  clear hcc hch C1 G1 R1
  have g2 : IntKind.i64.wrap (low + 1) = low + 1 := i64_in _ (by omega)
  have g3 : IntKind.i64.wrap (sz - low) = sz - low := i64_in _ (by omega)
  go_wp2_with fail
  refine (pick_any _ c _ (sz - low) C2.out (by omega) (by omega)).mono ?_
  rintro e w3 ⟨u, rfl, hu, hcc, hch⟩
  have C3 := Lib.hid hcc
  have G3 := Lib.hid (G2.out.trans hch)
  have R3 := Lib.hid (R2.out.chg hch (by omega))
  clear hcc hch C2 G2 R2
  obtain ⟨st, hst⟩ : ∃ x, x = low + 1 + u := ⟨_, rfl⟩
  have g4 : IntKind.i64.wrap (low + 1 + u) = st := by rw [hst]; exact i64_in _ (by omega)
  clear hst hu hlow
  go_wp2_with fail
  refine (pick_any _ c _ 8 C3.out (by omega) (by omega)).mono ?_
  rintro e w4 ⟨v, rfl, hv, hcc, hch⟩
  have C4 := Lib.hid hcc
  have G4 := Lib.hid (G3.out.trans hch)
  have R4 := Lib.hid (R3.out.chg hch (by omega))
  clear hcc hch C3 G3 R3
  obtain ⟨fl, hfl⟩ : ∃ x, x = 1 + v := ⟨_, rfl⟩
  have g5 : IntKind.i64.wrap (1 + v) = fl := by rw [hfl]; exact i64_in _ (by omega)
  clear hfl hv
  obtain ⟨B, hB⟩ : ∃ B, B = w4.heap.size := ⟨_, rfl⟩
  have zB : R < B := by have := R4.out.lt; omega
  have HB := Lib.hid hB
  clear hB
  go_upto_region 4 with fail
  rw [← HB.out]
  go_wp2_with fail
  refine (pick_any _ c _ 16 (C4.out.new (by repeat (first | with_reducible exact New.refl _ | with_reducible assumption | refine New.drewN ?_ _ | refine New.drew ?_ | refine New.alloc ?_ _ | refine New.setCell ?_ (by first | omega | (simp; omega) | (simp; done)) _ | (refine New.trans ?_ (by assumption))))) (by omega) (by omega)).mono ?_
  rintro e w5 ⟨z, rfl, hz, hcc, hch⟩
  have C5 := Lib.hid hcc
  have G5 := Lib.hid ((G4.out.alloc _).trans hch)
  have RX := Lib.hid ((R4.out.new ((New.refl w4).alloc _)).chg hch (by omega))
  have BX := Lib.hid ((Bx4.fresh w4 sz low st fl 25 HB.out.symm).chg hch (by omega))
  have zc5 := hcc.lt
  clear hcc hch C4 G4 R4 g1 g2 g3 g4 g5 hz
  have gs : IntKind.i64.wrap (sz + 1) = sz + 1 := i64_in _ (by omega)
  have b0 := BX.out.c0
  have b1 := BX.out.c1
  have b2 := BX.out.c2
  by_cases e0 : z = 0
  · subst e0
    clear b0 b1 b2 gs
    go_wp2_with fail
    refine (among_any _ c _ _ _ _ [0, 60, 61, -1] (C5.out.new (by repeat (first | with_reducible exact New.refl _ | with_reducible assumption | refine New.drewN ?_ _ | refine New.drew ?_ | refine New.alloc ?_ _ | refine New.setCell ?_ (by first | omega | (simp; omega) | (simp; done)) _ | (refine New.trans ?_ (by assumption))))) (ints_at' _ _ _ rfl (by simp)) (fun b o e => by cases e; omega) (by simp) (by simp) (by omega)).mono ?_
    rintro e w6 ⟨y, rfl, -, hcc, hch⟩
    have C6 := Lib.hid hcc
    have X6 := Lib.hid ((BX.out.new ((New.refl w5).alloc _)).chg hch (by omega))
    have Y6 := Lib.hid ((RX.out.new ((New.refl w5).alloc _)).chg hch (by omega))
    have G6 := Lib.hid ((G5.out.alloc _).trans hch)
    clear hcc hch C5 BX RX G5
    have X7 := Lib.hid (X6.out.set0 y)
    have Y7 := Lib.hid (Y6.out.apart (p := ⟨B, 0, none⟩) (by simp only; omega) (.int .i64 y))
    have C7 := Lib.hid (C6.out.store3 (p := ⟨B, 0, none⟩) (by simp only; omega) (.int .i64 y))
    have G7 := Lib.hid (G6.out.put3 (p := ⟨B, 0, none⟩) (by simp only; have := HL.out; omega) (.int .i64 y))
    have k0 := X6.out.c0
    have kf := X6.out.f0
    clear X6 Y6 C6 G6
    go_upto_region 13 with fail
    clear k0 kf
    obtain ⟨w7, hw7⟩ : ∃ W, W = w6.setCell ⟨B, 0, none⟩ (.int .i64 y) := ⟨_, rfl⟩
    rw [← hw7] at X7 Y7 C7 G7 ⊢
    clear hw7
    have x0 := X7.out.c0
    have x1 := X7.out.c1
    have x2 := X7.out.c2
    have x3 := X7.out.c3
    have y0 := Y7.out.c0
    have y1 := Y7.out.c1
    have y2 := Y7.out.c2
    have y3 := Y7.out.c3
    have z0 := Y7.out.f0
    have z1 := Y7.out.f1
    have z2 := Y7.out.f2
    have z3 := Y7.out.f3
    go_wp2
    refine bodyPost_ret (v := sipV y low st fl) (by simp [results, Try.results44, go_sem, sipV, *]) rfl ⟨_, _, _, _, rfl, (((C7.out.store3 (by simp only; omega) _).store3 (by simp only; omega) _).store3 (by simp only; omega) _).store3 (by simp only; omega) _ |>.mono (by omega), (((G7.out.put3 (by simp only; have := HL.out; omega) _).put3 (by simp only; have := HL.out; omega) _).put3 (by simp only; have := HL.out; omega) _).put3 (by simp only; have := HL.out; omega) _⟩
  · by_cases e1 : z = 1
    · subst e1
      clear b1 gs
      go_wp2_with fail
      refine (among_any _ c _ _ _ _ [-1, st, sz, 4611686018427387904] (C5.out.new (by repeat (first | with_reducible exact New.refl _ | with_reducible assumption | refine New.drewN ?_ _ | refine New.drew ?_ | refine New.alloc ?_ _ | refine New.setCell ?_ (by first | omega | (simp; omega) | (simp; done)) _ | (refine New.trans ?_ (by assumption))))) (ints_at' _ _ _ rfl (by simp)) (fun b o e => by cases e; omega) (by simp) (by simp) (by omega)).mono ?_
      rintro e w6 ⟨y, rfl, -, hcc, hch⟩
      have C6 := Lib.hid hcc
      have X6 := Lib.hid ((BX.out.new ((New.refl w5).alloc _)).chg hch (by omega))
      have Y6 := Lib.hid ((RX.out.new ((New.refl w5).alloc _)).chg hch (by omega))
      have G6 := Lib.hid ((G5.out.alloc _).trans hch)
      clear hcc hch C5 BX RX G5
      have X7 := Lib.hid (X6.out.set1 y)
      have Y7 := Lib.hid (Y6.out.apart (p := ⟨B, 1, none⟩) (by simp only; omega) (.int .i64 y))
      have C7 := Lib.hid (C6.out.store3 (p := ⟨B, 1, none⟩) (by simp only; omega) (.int .i64 y))
      have G7 := Lib.hid (G6.out.put3 (p := ⟨B, 1, none⟩) (by simp only; have := HL.out; omega) (.int .i64 y))
      have k0 := X6.out.c1
      have kf := X6.out.f1
      clear X6 Y6 C6 G6
      go_upto_region 13 with fail
      clear k0 kf
      obtain ⟨w7, hw7⟩ : ∃ W, W = w6.setCell ⟨B, 1, none⟩ (.int .i64 y) := ⟨_, rfl⟩
      rw [← hw7] at X7 Y7 C7 G7 ⊢
      clear hw7
      have x0 := X7.out.c0
      have x1 := X7.out.c1
      have x2 := X7.out.c2
      have x3 := X7.out.c3
      have y0 := Y7.out.c0
      have y1 := Y7.out.c1
      have y2 := Y7.out.c2
      have y3 := Y7.out.c3
      have z0 := Y7.out.f0
      have z1 := Y7.out.f1
      have z2 := Y7.out.f2
      have z3 := Y7.out.f3
      go_wp2
      refine bodyPost_ret (v := sipV sz y st fl) (by simp [results, Try.results44, go_sem, sipV, *]) rfl ⟨_, _, _, _, rfl, (((C7.out.store3 (by simp only; omega) _).store3 (by simp only; omega) _).store3 (by simp only; omega) _).store3 (by simp only; omega) _ |>.mono (by omega), (((G7.out.put3 (by simp only; have := HL.out; omega) _).put3 (by simp only; have := HL.out; omega) _).put3 (by simp only; have := HL.out; omega) _).put3 (by simp only; have := HL.out; omega) _⟩
    · by_cases e2 : z = 2
      · subst e2
        clear b2
        go_wp2_with fail
        refine (among_any _ c _ _ _ _ [low, sz + 1, -1, sz] (C5.out.new (by repeat (first | with_reducible exact New.refl _ | with_reducible assumption | refine New.drewN ?_ _ | refine New.drew ?_ | refine New.alloc ?_ _ | refine New.setCell ?_ (by first | omega | (simp; omega) | (simp; done)) _ | (refine New.trans ?_ (by assumption))))) (ints_at' _ _ _ rfl (by simp)) (fun b o e => by cases e; omega) (by simp) (by simp) (by omega)).mono ?_
        rintro e w6 ⟨y, rfl, -, hcc, hch⟩
        have C6 := Lib.hid hcc
        have X6 := Lib.hid ((BX.out.new ((New.refl w5).alloc _)).chg hch (by omega))
        have Y6 := Lib.hid ((RX.out.new ((New.refl w5).alloc _)).chg hch (by omega))
        have G6 := Lib.hid ((G5.out.alloc _).trans hch)
        clear hcc hch C5 BX RX G5
        have X7 := Lib.hid (X6.out.set2 y)
        have Y7 := Lib.hid (Y6.out.apart (p := ⟨B, 2, none⟩) (by simp only; omega) (.int .i64 y))
        have C7 := Lib.hid (C6.out.store3 (p := ⟨B, 2, none⟩) (by simp only; omega) (.int .i64 y))
        have G7 := Lib.hid (G6.out.put3 (p := ⟨B, 2, none⟩) (by simp only; have := HL.out; omega) (.int .i64 y))
        have k0 := X6.out.c2
        have kf := X6.out.f2
        clear X6 Y6 C6 G6
        go_upto_region 13 with fail
        clear k0 kf
        obtain ⟨w7, hw7⟩ : ∃ W, W = w6.setCell ⟨B, 2, none⟩ (.int .i64 y) := ⟨_, rfl⟩
        rw [← hw7] at X7 Y7 C7 G7 ⊢
        clear hw7
        have x0 := X7.out.c0
        have x1 := X7.out.c1
        have x2 := X7.out.c2
        have x3 := X7.out.c3
        have y0 := Y7.out.c0
        have y1 := Y7.out.c1
        have y2 := Y7.out.c2
        have y3 := Y7.out.c3
        have z0 := Y7.out.f0
        have z1 := Y7.out.f1
        have z2 := Y7.out.f2
        have z3 := Y7.out.f3
        go_wp2
        refine bodyPost_ret (v := sipV sz low y fl) (by simp [results, Try.results44, go_sem, sipV, *]) rfl ⟨_, _, _, _, rfl, (((C7.out.store3 (by simp only; omega) _).store3 (by simp only; omega) _).store3 (by simp only; omega) _).store3 (by simp only; omega) _ |>.mono (by omega), (((G7.out.put3 (by simp only; have := HL.out; omega) _).put3 (by simp only; have := HL.out; omega) _).put3 (by simp only; have := HL.out; omega) _).put3 (by simp only; have := HL.out; omega) _⟩
      · by_cases e3 : z = 3
        · subst e3
          clear b0 b1 b2 gs
          go_wp2_with fail
          refine (among_any _ c _ _ _ _ [0, 60, 61, -1] (C5.out.new (by repeat (first | with_reducible exact New.refl _ | with_reducible assumption | refine New.drewN ?_ _ | refine New.drew ?_ | refine New.alloc ?_ _ | refine New.setCell ?_ (by first | omega | (simp; omega) | (simp; done)) _ | (refine New.trans ?_ (by assumption))))) (ints_at' _ _ _ rfl (by simp)) (fun b o e => by cases e; omega) (by simp) (by simp) (by omega)).mono ?_
          rintro e w6 ⟨y, rfl, -, hcc, hch⟩
          have C6 := Lib.hid hcc
          have X6 := Lib.hid ((BX.out.new ((New.refl w5).alloc _)).chg hch (by omega))
          have Y6 := Lib.hid ((RX.out.new ((New.refl w5).alloc _)).chg hch (by omega))
          have G6 := Lib.hid ((G5.out.alloc _).trans hch)
          clear hcc hch C5 BX RX G5
          have X7 := Lib.hid (X6.out.set3 y)
          have Y7 := Lib.hid (Y6.out.apart (p := ⟨B, 3, none⟩) (by simp only; omega) (.int .i64 y))
          have C7 := Lib.hid (C6.out.store3 (p := ⟨B, 3, none⟩) (by simp only; omega) (.int .i64 y))
          have G7 := Lib.hid (G6.out.put3 (p := ⟨B, 3, none⟩) (by simp only; have := HL.out; omega) (.int .i64 y))
          have k0 := X6.out.c3
          have kf := X6.out.f3
          clear X6 Y6 C6 G6
          go_upto_region 13 with fail
          clear k0 kf
          obtain ⟨w7, hw7⟩ : ∃ W, W = w6.setCell ⟨B, 3, none⟩ (.int .i64 y) := ⟨_, rfl⟩
          rw [← hw7] at X7 Y7 C7 G7 ⊢
          clear hw7
          have x0 := X7.out.c0
          have x1 := X7.out.c1
          have x2 := X7.out.c2
          have x3 := X7.out.c3
          have y0 := Y7.out.c0
          have y1 := Y7.out.c1
          have y2 := Y7.out.c2
          have y3 := Y7.out.c3
          have z0 := Y7.out.f0
          have z1 := Y7.out.f1
          have z2 := Y7.out.f2
          have z3 := Y7.out.f3
          go_wp2
          refine bodyPost_ret (v := sipV sz low st y) (by simp [results, Try.results44, go_sem, sipV, *]) rfl ⟨_, _, _, _, rfl, (((C7.out.store3 (by simp only; omega) _).store3 (by simp only; omega) _).store3 (by simp only; omega) _).store3 (by simp only; omega) _ |>.mono (by omega), (((G7.out.put3 (by simp only; have := HL.out; omega) _).put3 (by simp only; have := HL.out; omega) _).put3 (by simp only; have := HL.out; omega) _).put3 (by simp only; have := HL.out; omega) _⟩
        · clear b0 b1 b2 gs
          go_upto_region 13 with fail
          have x0 := BX.out.c0
          have x1 := BX.out.c1
          have x2 := BX.out.c2
          have x3 := BX.out.c3
          have y0 := RX.out.c0
          have y1 := RX.out.c1
          have y2 := RX.out.c2
          have y3 := RX.out.c3
          have z0 := RX.out.f0
          have z1 := RX.out.f1
          have z2 := RX.out.f2
          have z3 := RX.out.f3
          go_wp2
          refine bodyPost_ret (v := sipV sz low st fl) (by simp [results, Try.results44, go_sem, sipV, *]) rfl ⟨_, _, _, _, rfl, (((C5.out.store3 (by simp only; omega) _).store3 (by simp only; omega) _).store3 (by simp only; omega) _).store3 (by simp only; omega) _ |>.mono (by omega), (((G5.out.put3 (by simp only; have := HL.out; omega) _).put3 (by simp only; have := HL.out; omega) _).put3 (by simp only; have := HL.out; omega) _).put3 (by simp only; have := HL.out; omega) _⟩
end Go.Proofs.Ytfhpmihjfojbnaa
