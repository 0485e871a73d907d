/- The part of the water that basins save. -/
import Derived.Test.YtknkiodpblbecaaRts
import Derived.Test.YtknkiodpblbecaaWithin
namespace Go.Proofs.Ytknkiodpblbecaa
open Go.RowKit Go.IntWalk

def svB (b : Int) : Bool := inB 0 20 b
def svM (b : Int) : Int × Int := if svB b = true then red b (b + 2) else (0, 0)
def wsB (l b : Int) : Bool := inB 1 20 l && inB 0 20 b
def wsM (l b : Int) : Int × Int := if wsB l b = true then red (l * b) (b + 2) else (0, 0)
theorem svM_no {b : Int} (h : svB b = false) : svM b = (0, 0) := by unfold svM; rw [if_neg (by rw [h]; decide)]
theorem wsM_no {l b : Int} (h : wsB l b = false) : wsM l b = (0, 0) := by unfold wsM; rw [if_neg (by rw [h]; decide)]

set_option maxRecDepth 100000 in
theorem sSavedShare_any (w : World) (b : Int) :
    Calls Try.prog 18 #[.int .i64 b] w fun e w' => e = .returned (.tuple #[.agg #[.int .i64 ((svM b).1), .int .i64 ((svM b).2)], .bool (svB b)]) ∧ New w w' := by
  cases hb : inB 0 20 b
  case false =>
    rw [show svB b = false from hb, svM_no hb]
    have HB := Lib.hid hb; clear hb
    go_enter Try.func18, Try.ntmps18
    go_wp2_with fail
    refine (l1In_any _ _ _ _).mono ?_
    rintro e w1 ⟨rfl, rfl⟩
    rw [HB.out]
    go_wp2
    refine bodyPost_ret (v := .tuple #[.agg #[.int .i64 0, .int .i64 0], .bool false]) (by simp [results, Try.results18, go_sem]) rfl ⟨rfl, (by repeat (first | with_reducible exact New.refl _ | with_reducible assumption | refine New.drewN ?_ _ | refine New.drew ?_ | refine New.alloc ?_ _ | refine New.setCell ?_ (by first | omega | (simp; omega) | (simp; done)) _ | (refine New.trans ?_ (by assumption))))⟩
  case true =>
    have R : svM b = red b (b + 2) := by unfold svM; rw [if_pos (show svB b = true from hb)]
    rw [show svB b = true from hb, R]
    obtain ⟨h0, h1⟩ := inB_iff.1 hb
    have HB := Lib.hid hb; clear hb R
    go_enter Try.func18, Try.ntmps18
    go_wp2_with fail
    refine (l1In_any _ _ _ _).mono ?_
    rintro e w1 ⟨rfl, rfl⟩
    rw [HB.out]
    go_wp2_with fail
    refine (leRatio_any _ b (b + 2) (by omega) (by omega) (by omega) (by omega)).mono ?_
    rintro e w1 ⟨rfl, n1⟩
    obtain ⟨c0, c1, f0, f1⟩ := pair_kept (p := ⟨w.heap.size, 0, none⟩) (q := ⟨w.heap.size, 1, none⟩) (x := .int .i64 0) (y := .int .i64 0) n1 (by simp [go_sem])
    have N1 := Lib.hid (show New w w1 from New.trans (by repeat (first | with_reducible exact New.refl _ | with_reducible assumption | refine New.drewN ?_ _ | refine New.drew ?_ | refine New.alloc ?_ _ | refine New.setCell ?_ (by first | omega | (simp; omega) | (simp; done)) _ | (refine New.trans ?_ (by assumption)))) n1); clear n1
    obtain ⟨p, hp⟩ : ∃ p, p = red b (b + 2) := ⟨_, rfl⟩
    rw [← hp]
    have HP := Lib.hid hp; clear hp
    go_wp2
    refine bodyPost_ret (v := .tuple #[ratV p, .bool true]) (by simp [results, Try.results18, go_sem, c0, c1]) rfl ⟨by rw [← HP.out], ?_⟩
    have := N1.out
    (repeat (first | with_reducible exact New.refl _ | with_reducible assumption | refine New.drewN ?_ _ | refine New.drew ?_ | refine New.alloc ?_ _ | refine New.setCell ?_ (by first | omega | (simp; omega) | (simp; done)) _ | (refine New.trans ?_ (by assumption))))

set_option maxRecDepth 100000 in
theorem iSavedShare_any (w : World) (b : Int) :
    Calls Try.prog 19 #[.int .i64 b] w fun e w' => e = .returned (.tuple #[.agg #[.int .i64 ((svM b).1), .int .i64 ((svM b).2)], .bool (svB b)]) ∧ New w w' := by
  by_cases hb : 0 ≤ b ∧ b ≤ 20
  · obtain ⟨h0, h1⟩ := hb
    have g : svB b = true := inB_iff.2 ⟨h0, h1⟩
    have R : svM b = red b (b + 2) := by unfold svM; rw [if_pos g]
    rw [g, R]
    clear g R
    go_enter Try.func19, Try.ntmps19
    go_wp2_with fail
    refine (ratioOf_any _ b (b + 2) (by omega) (by omega) (by omega) (by omega)).mono ?_
    rintro e w1 ⟨rfl, n1⟩
    obtain ⟨c0, c1, f0, f1⟩ := pair_kept (p := ⟨w.heap.size, 0, none⟩) (q := ⟨w.heap.size, 1, none⟩) (x := .int .i64 0) (y := .int .i64 0) n1 (by simp [go_sem])
    have N1 := Lib.hid (show New w w1 from New.trans (by repeat (first | with_reducible exact New.refl _ | with_reducible assumption | refine New.drewN ?_ _ | refine New.drew ?_ | refine New.alloc ?_ _ | refine New.setCell ?_ (by first | omega | (simp; omega) | (simp; done)) _ | (refine New.trans ?_ (by assumption)))) n1); clear n1
    obtain ⟨p, hp⟩ : ∃ p, p = red b (b + 2) := ⟨_, rfl⟩
    rw [← hp]
    have HP := Lib.hid hp; clear hp
    go_wp2
    refine bodyPost_ret (v := .tuple #[ratV p, .bool true]) (by simp [results, Try.results19, go_sem, c0, c1]) rfl ⟨by rw [← HP.out], ?_⟩
    have := N1.out
    (repeat (first | with_reducible exact New.refl _ | with_reducible assumption | refine New.drewN ?_ _ | refine New.drew ?_ | refine New.alloc ?_ _ | refine New.setCell ?_ (by first | omega | (simp; omega) | (simp; done)) _ | (refine New.trans ?_ (by assumption))))
  · have g : svB b = false := inB_false.2 hb
    rw [g, svM_no g]
    clear g
    by_cases h0 : 0 ≤ b
    · have h1 : ¬ b ≤ 20 := by omega
      have h2 : ¬ b < 0 := by omega
      clear hb
      go_enter Try.func19, Try.ntmps19
      go_wp2
      refine bodyPost_ret (v := .tuple #[.agg #[.int .i64 0, .int .i64 0], .bool false]) (by simp [results, Try.results19, go_sem]) rfl ⟨rfl, (by repeat (first | with_reducible exact New.refl _ | with_reducible assumption | refine New.drewN ?_ _ | refine New.drew ?_ | refine New.alloc ?_ _ | refine New.setCell ?_ (by first | omega | (simp; omega) | (simp; done)) _ | (refine New.trans ?_ (by assumption))))⟩
    · have h1 : b < 0 := by omega
      clear hb h0
      go_enter Try.func19, Try.ntmps19
      go_wp2
      refine bodyPost_ret (v := .tuple #[.agg #[.int .i64 0, .int .i64 0], .bool false]) (by simp [results, Try.results19, go_sem]) rfl ⟨rfl, (by repeat (first | with_reducible exact New.refl _ | with_reducible assumption | refine New.drewN ?_ _ | refine New.drew ?_ | refine New.alloc ?_ _ | refine New.setCell ?_ (by first | omega | (simp; omega) | (simp; done)) _ | (refine New.trans ?_ (by assumption))))⟩

set_option maxRecDepth 100000 in
theorem sWaterSaved_any (w : World) (l b : Int) :
    Calls Try.prog 21 #[.int .i64 l, .int .i64 b] w fun e w' => e = .returned (.tuple #[.agg #[.int .i64 ((wsM l b).1), .int .i64 ((wsM l b).2)], .bool (wsB l b)]) ∧ New w w' := by
  cases hl : inB 1 20 l
  case false =>
    have g : wsB l b = false := by unfold wsB; rw [hl]; rfl
    rw [g, wsM_no g]
    have HL := Lib.hid hl; clear hl g
    go_enter Try.func21, Try.ntmps21
    go_wp2_with fail
    refine (l1In_any _ _ _ _).mono ?_
    rintro e w1 ⟨rfl, rfl⟩
    rw [HL.out]
    go_wp2
    refine bodyPost_ret (v := .tuple #[.agg #[.int .i64 0, .int .i64 0], .bool false]) (by simp [results, Try.results21, go_sem]) rfl ⟨rfl, (by repeat (first | with_reducible exact New.refl _ | with_reducible assumption | refine New.drewN ?_ _ | refine New.drew ?_ | refine New.alloc ?_ _ | refine New.setCell ?_ (by first | omega | (simp; omega) | (simp; done)) _ | (refine New.trans ?_ (by assumption))))⟩
  case true =>
    cases hb : inB 0 20 b
    case false =>
      have g : wsB l b = false := by unfold wsB; rw [hl, hb]; rfl
      rw [g, wsM_no g]
      have HL := Lib.hid hl; clear hl g
      have HB := Lib.hid hb; clear hb
      go_enter Try.func21, Try.ntmps21
      go_wp2_with fail
      refine (l1In_any _ _ _ _).mono ?_
      rintro e w1 ⟨rfl, rfl⟩
      rw [HL.out]
      go_wp2_with fail
      refine (l1In_any _ _ _ _).mono ?_
      rintro e w1 ⟨rfl, rfl⟩
      rw [HB.out]
      go_wp2
      refine bodyPost_ret (v := .tuple #[.agg #[.int .i64 0, .int .i64 0], .bool false]) (by simp [results, Try.results21, go_sem]) rfl ⟨rfl, (by repeat (first | with_reducible exact New.refl _ | with_reducible assumption | refine New.drewN ?_ _ | refine New.drew ?_ | refine New.alloc ?_ _ | refine New.setCell ?_ (by first | omega | (simp; omega) | (simp; done)) _ | (refine New.trans ?_ (by assumption))))⟩
    case true =>
      have g : wsB l b = true := by unfold wsB; rw [hl, hb]; rfl
      have R : wsM l b = red (l * b) (b + 2) := by unfold wsM; rw [if_pos g]
      rw [g, R]
      obtain ⟨h0, h1⟩ := inB_iff.1 hl
      obtain ⟨h2, h3⟩ := inB_iff.1 hb
      have q0 : 0 ≤ l * b := Int.mul_nonneg (by omega) h2
      have q1 : l * b ≤ 20 * 20 := Int.mul_le_mul h1 h3 h2 (by omega)
      have hw1 : IntKind.i64.wrap (l * b) = l * b := i64_in _ (by omega)
      have HL := Lib.hid hl; clear hl g R
      have HB := Lib.hid hb; clear hb
      go_enter Try.func21, Try.ntmps21
      go_wp2_with fail
      refine (l1In_any _ _ _ _).mono ?_
      rintro e w1 ⟨rfl, rfl⟩
      rw [HL.out]
      go_wp2_with fail
      refine (l1In_any _ _ _ _).mono ?_
      rintro e w1 ⟨rfl, rfl⟩
      rw [HB.out]
      go_wp2_with fail
      refine (leRatio_any _ (l * b) (b + 2) (by omega) (by omega) (by omega) (by omega)).mono ?_
      rintro e w1 ⟨rfl, n1⟩
      obtain ⟨c0, c1, f0, f1⟩ := pair_kept (p := ⟨w.heap.size, 0, none⟩) (q := ⟨w.heap.size, 1, none⟩) (x := .int .i64 0) (y := .int .i64 0) n1 (by simp [go_sem])
      have N1 := Lib.hid (show New w w1 from New.trans (by repeat (first | with_reducible exact New.refl _ | with_reducible assumption | refine New.drewN ?_ _ | refine New.drew ?_ | refine New.alloc ?_ _ | refine New.setCell ?_ (by first | omega | (simp; omega) | (simp; done)) _ | (refine New.trans ?_ (by assumption)))) n1); clear n1
      obtain ⟨p, hp⟩ : ∃ p, p = red (l * b) (b + 2) := ⟨_, rfl⟩
      rw [← hp]
      have HP := Lib.hid hp; clear hp
      go_wp2
      refine bodyPost_ret (v := .tuple #[ratV p, .bool true]) (by simp [results, Try.results21, go_sem, c0, c1]) rfl ⟨by rw [← HP.out], ?_⟩
      have := N1.out
      (repeat (first | with_reducible exact New.refl _ | with_reducible assumption | refine New.drewN ?_ _ | refine New.drew ?_ | refine New.alloc ?_ _ | refine New.setCell ?_ (by first | omega | (simp; omega) | (simp; done)) _ | (refine New.trans ?_ (by assumption))))

/-- A number of shares in lowest terms. -/
theorem red_times {n d k : Int} (hd : 0 < d) : red ((red n d).1 * k) (red n d).2 = red (k * n) d := by
  refine red_eq (red_pos hd) hd ?_
  have := red_cross n d
  generalize (red n d).1 = a at *
  generalize (red n d).2 = c at *
  grind

set_option maxRecDepth 100000 in
theorem iWaterSaved_any (w : World) (l b : Int) :
    Calls Try.prog 22 #[.int .i64 l, .int .i64 b] w fun e w' => e = .returned (.tuple #[.agg #[.int .i64 ((wsM l b).1), .int .i64 ((wsM l b).2)], .bool (wsB l b)]) ∧ New w w' := by
  cases hb : svB b
  case false =>
    have g : wsB l b = false := by unfold wsB; rw [show inB 0 20 b = false from hb, Bool.and_false]
    rw [g, wsM_no g]
    have HB := Lib.hid hb; clear hb g
    go_enter Try.func22, Try.ntmps22
    go_wp2_with fail
    refine (iSavedShare_any _ _).mono ?_
    rintro e w1 ⟨rfl, n1⟩
    rw [HB.out]
    obtain ⟨c0, c1, f0, f1⟩ := pair_kept (p := ⟨w.heap.size, 0, none⟩) (q := ⟨w.heap.size, 1, none⟩) (x := .int .i64 0) (y := .int .i64 0) n1 (by simp [go_sem])
    have z1 : w.heap.size < w1.heap.size := World.block_lt_of_cell? _ _ c0
    have N1 := Lib.hid (show New w w1 from New.trans (by repeat (first | with_reducible exact New.refl _ | with_reducible assumption | refine New.drewN ?_ _ | refine New.drew ?_ | refine New.alloc ?_ _ | refine New.setCell ?_ (by first | omega | (simp; omega) | (simp; done)) _ | (refine New.trans ?_ (by assumption)))) n1); clear n1
    go_wp2
    refine bodyPost_ret (v := .tuple #[.agg #[.int .i64 0, .int .i64 0], .bool false]) (by simp [results, Try.results22, go_sem, c0, c1, z1]) rfl ⟨rfl, ?_⟩
    have := N1.out
    (repeat (first | with_reducible exact New.refl _ | with_reducible assumption | refine New.drewN ?_ _ | refine New.drew ?_ | refine New.alloc ?_ _ | refine New.setCell ?_ (by first | omega | (simp; omega) | (simp; done)) _ | (refine New.trans ?_ (by assumption))))
  case true =>
    obtain ⟨h2, h3⟩ := inB_iff.1 (show inB 0 20 b = true from hb)
    have R : svM b = red b (b + 2) := by unfold svM; rw [if_pos hb]
    have bd := red_le (n := b) (d := b + 2) (by omega)
    have bp := red_pos (n := b) (d := b + 2) (by omega)
    obtain ⟨x, hx⟩ : ∃ x, x = (red b (b + 2)).1 := ⟨_, rfl⟩
    obtain ⟨y, hy⟩ : ∃ y, y = (red b (b + 2)).2 := ⟨_, rfl⟩
    rw [← hx] at bd
    rw [← hy] at bd bp
    have x0 := (bd.2.1 h2).1
    have x1 := (bd.2.1 h2).2
    have y1 := bd.1
    have RX := Lib.hid (show red b (b + 2) = (x, y) by rw [hx, hy])
    have RS := Lib.hid (show svM b = (x, y) by rw [R, hx, hy])
    clear bd R hx hy
    have HB := Lib.hid hb; clear hb
    by_cases hl : 1 ≤ l ∧ l ≤ 20
    · obtain ⟨l0, l1⟩ := hl
      have g : wsB l b = true := by unfold wsB; rw [inB_iff.2 ⟨l0, l1⟩, show inB 0 20 b = true from HB.out]; rfl
      have T := Lib.hid (show wsM l b = red (x * l) y by
        unfold wsM; rw [if_pos g]
        have := red_times (n := b) (d := b + 2) (k := l) (by omega)
        rw [RX.out] at this
        exact this.symm)
      have q0 : 0 ≤ x * l := Int.mul_nonneg x0 (by omega)
      have q1 : x * l ≤ 20 * 20 := Int.mul_le_mul (by omega) l1 (by omega) (by omega)
      have m1 : ¬ l < 1 := by omega
      rw [g]
      clear g
      go_enter Try.func22, Try.ntmps22
      go_wp2_with fail
      refine (iSavedShare_any _ _).mono ?_
      rintro e w1 ⟨rfl, n1⟩
      rw [HB.out, RS.out]
      have C1 := Lib.hid (pair_kept (p := ⟨w.heap.size, 0, none⟩) (q := ⟨w.heap.size, 1, none⟩) (x := .int .i64 0) (y := .int .i64 0) n1 (by simp [go_sem]))
      have z1 : w.heap.size < w1.heap.size := World.block_lt_of_cell? _ _ C1.out.1
      have N1 := Lib.hid (show New w w1 from New.trans (by repeat (first | with_reducible exact New.refl _ | with_reducible assumption | refine New.drewN ?_ _ | refine New.drew ?_ | refine New.alloc ?_ _ | refine New.setCell ?_ (by first | omega | (simp; omega) | (simp; done)) _ | (refine New.trans ?_ (by assumption)))) n1); clear n1
      go_wp2_with fail
      refine (times_any _ x y l bp (by omega) (by omega) (by omega)).mono ?_
      rintro e w2 ⟨rfl, n2⟩
      obtain ⟨c0, c1, f0, f1⟩ := pair_kept (((New.refl w1).alloc _).trans n2) C1.out
      have N2 := Lib.hid (show New w w2 from New.trans (N1.out.alloc _) n2)
      clear n2
      obtain ⟨p, hp⟩ : ∃ p, p = red (x * l) y := ⟨_, rfl⟩
      rw [← hp]
      have HP := Lib.hid hp; clear hp
      go_wp2
      refine bodyPost_ret (v := .tuple #[ratV p, .bool true]) (by simp [results, Try.results22, go_sem, c0, c1]) rfl ⟨by rw [T.out, ← HP.out], ?_⟩
      have := N2.out
      (repeat (first | with_reducible exact New.refl _ | with_reducible assumption | refine New.drewN ?_ _ | refine New.drew ?_ | refine New.alloc ?_ _ | refine New.setCell ?_ (by first | omega | (simp; omega) | (simp; done)) _ | (refine New.trans ?_ (by assumption))))
    · have g : wsB l b = false := by unfold wsB; rw [inB_false.2 hl]; rfl
      rw [g, wsM_no g]
      clear g
      have bad : l < 1 ∨ 20 < l := by omega
      clear hl
      by_cases l0 : l < 1
      · clear bad
        go_enter Try.func22, Try.ntmps22
        go_wp2_with fail
        refine (iSavedShare_any _ _).mono ?_
        rintro e w1 ⟨rfl, n1⟩
        rw [HB.out, RS.out]
        obtain ⟨c0, c1, f0, f1⟩ := pair_kept (p := ⟨w.heap.size, 0, none⟩) (q := ⟨w.heap.size, 1, none⟩) (x := .int .i64 0) (y := .int .i64 0) n1 (by simp [go_sem])
        have z1 : w.heap.size < w1.heap.size := World.block_lt_of_cell? _ _ c0
        have N1 := Lib.hid (show New w w1 from New.trans (by repeat (first | with_reducible exact New.refl _ | with_reducible assumption | refine New.drewN ?_ _ | refine New.drew ?_ | refine New.alloc ?_ _ | refine New.setCell ?_ (by first | omega | (simp; omega) | (simp; done)) _ | (refine New.trans ?_ (by assumption)))) n1); clear n1
        go_wp2
        refine bodyPost_ret (v := .tuple #[.agg #[.int .i64 0, .int .i64 0], .bool false]) (by simp [results, Try.results22, go_sem, c0, c1, z1]) rfl ⟨rfl, ?_⟩
        have := N1.out
        (repeat (first | with_reducible exact New.refl _ | with_reducible assumption | refine New.drewN ?_ _ | refine New.drew ?_ | refine New.alloc ?_ _ | refine New.setCell ?_ (by first | omega | (simp; omega) | (simp; done)) _ | (refine New.trans ?_ (by assumption))))
      · have l1 : ¬ l ≤ 20 := by omega
        clear bad
        go_enter Try.func22, Try.ntmps22
        go_wp2_with fail
        refine (iSavedShare_any _ _).mono ?_
        rintro e w1 ⟨rfl, n1⟩
        rw [HB.out, RS.out]
        obtain ⟨c0, c1, f0, f1⟩ := pair_kept (p := ⟨w.heap.size, 0, none⟩) (q := ⟨w.heap.size, 1, none⟩) (x := .int .i64 0) (y := .int .i64 0) n1 (by simp [go_sem])
        have z1 : w.heap.size < w1.heap.size := World.block_lt_of_cell? _ _ c0
        have N1 := Lib.hid (show New w w1 from New.trans (by repeat (first | with_reducible exact New.refl _ | with_reducible assumption | refine New.drewN ?_ _ | refine New.drew ?_ | refine New.alloc ?_ _ | refine New.setCell ?_ (by first | omega | (simp; omega) | (simp; done)) _ | (refine New.trans ?_ (by assumption)))) n1); clear n1
        go_wp2
        refine bodyPost_ret (v := .tuple #[.agg #[.int .i64 0, .int .i64 0], .bool false]) (by simp [results, Try.results22, go_sem, c0, c1, z1]) rfl ⟨rfl, ?_⟩
        have := N1.out
        (repeat (first | with_reducible exact New.refl _ | with_reducible assumption | refine New.drewN ?_ _ | refine New.drew ?_ | refine New.alloc ?_ _ | refine New.setCell ?_ (by first | omega | (simp; omega) | (simp; done)) _ | (refine New.trans ?_ (by assumption))))
end Go.Proofs.Ytknkiodpblbecaa
