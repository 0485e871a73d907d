/- The program's flights used by traffic. -/
import Derived.Test.YtmhcnomkkjgidaaDoorUse
import Derived.Test.YtmhcnomkkjgidaaDoorPaI
import Derived.Test.YtmhcnomkkjgidaaDoorLkF
namespace Go.Proofs.YtmhcnomkkjgidaaDoor
open Go.RowKit

theorem LkRows.flight {w : World} {lo b1 c1 bf cf bc cc bn cn : Nat} {L : List Int} {s : LkS} (h : LkRows w lo b1 c1 bf cf bc cc bn cn L s) : OwnF w lo w.heap.size (some ⟨b1, 0, none⟩) L.length c1 (some ⟨bf, 0, none⟩) L.length cf L s.F :=
  ⟨h.r1.mono h.lo.1 h.hi.1, h.rf.mono h.lo.2.1 h.hi.2.1, fun _ _ e => by simp [blkOf] at e; exact h.ne.2.1 e⟩
/-- The rows behind a change that has turned three of them. -/
theorem LkRows.after {w w' : World} {lo b1 c1 bf cf bc cc bn cn B : Nat} {L : List Int} {s s2 : LkS} (h : LkRows w lo b1 c1 bf cf bc cc bn cn L s) (hb : LkBox w' B (some ⟨b1, 0, none⟩) c1 bf cf bc cc bn cn L s2) (k : Chg (fun b => b = bf ∨ b = bc ∨ b = bn) w w') :
    LkRows w' lo b1 c1 bf cf bc cc bn cn L s2 :=
  ⟨hb.ok, h.r1.chg k (fun b a1 a2 e => by have := h.ne.2; omega), hb.rf, hb.rc, hb.rn, h.ne, h.lo, by have := h.hi; have := k.size; omega⟩
/-- A box of four cells that waits for a result. -/
structure Res4 (w : World) (B : Nat) : Prop where
  r0 : w.cell? ⟨B, 0, none⟩ = some (.slice none 0 0)
  r1 : w.cell? ⟨B, 1, none⟩ = some (.slice none 0 0)
  r2 : w.cell? ⟨B, 2, none⟩ = some (.slice none 0 0)
  r3 : w.cell? ⟨B, 3, none⟩ = some (.slice none 0 0)
  f0 : w.frozen? ⟨B, 0, none⟩ = false
  f1 : w.frozen? ⟨B, 1, none⟩ = false
  f2 : w.frozen? ⟨B, 2, none⟩ = false
  f3 : w.frozen? ⟨B, 3, none⟩ = false
theorem Res4.lt {w : World} {B : Nat} (h : Res4 w B) : B < w.heap.size := World.block_lt_of_cell? _ _ h.r0
theorem Res4.new {w w' : World} {B : Nat} (h : Res4 w B) (k : New w w') : Res4 w' B := ⟨k.cell h.r0, k.cell h.r1, k.cell h.r2, k.cell h.r3, k.frz h.r0 h.f0, k.frz h.r1 h.f1, k.frz h.r2 h.f2, k.frz h.r3 h.f3⟩
theorem Res4.chg {P : Nat → Prop} {w w' : World} {B : Nat} (h : Res4 w B) (k : Chg P w w') (hp : ¬ P B) : Res4 w' B := ⟨k.cell h.r0 hp, k.cell h.r1 hp, k.cell h.r2 hp, k.cell h.r3 hp, k.frz h.r0 h.f0 hp, k.frz h.r1 h.f1 hp, k.frz h.r2 h.f2 hp, k.frz h.r3 h.f3 hp⟩
theorem extract_one (s : ByteArray) (i : Nat) (hi : i < s.size) : s.extract i (i + 1) = ⟨#[byA s i]⟩ := by
  obtain ⟨⟨l⟩⟩ := s
  have hl : i < l.length := hi
  refine ByteArray.ext (Array.ext' ?_)
  rw [Lib.extract_data]
  show (l.drop i).take (i + 1 - i) = [l.getD i 0]
  rw [show i + 1 - i = 1 by omega, List.getD_eq_getElem?_getD, List.getElem?_eq_getElem hl, List.drop_eq_getElem_cons hl]
  rfl
/-- What usedBy hands back. -/
def RetUs (w : World) (L : List Int) (F : List Bool) (s : ByteArray) (e : Ending) (w' : World) : Prop :=
  ∃ b1 c1 bf cf bc bn, e = .returned (.tuple #[.agg #[.slice (some ⟨b1, 0, none⟩) L.length c1, .slice (some ⟨bf, 0, none⟩) L.length cf, .slice (some ⟨bc, 0, none⟩) (L.length + 1) (L.length + 1), .slice (some ⟨bn, 0, none⟩) L.length L.length], .bool true]) ∧
    LkRows w' w.heap.size b1 c1 bf cf bc (L.length + 1) bn L.length L (stE L F s) ∧ New w w'

set_option maxRecDepth 100000 in
set_option maxHeartbeats 1000000 in
theorem usedBy_bad (w : World) (aa ab : Option Addr) (n m ca cb : Nat) (L : List Int) (F : List Bool) (s : ByteArray) (hs : s.size ≤ 1048576) (h1 : Ints w aa n ca L) (h2 : Bools w ab m cb F) (hu : usB L F s = false) :
    Calls Tryd.prog 41 #[.agg #[.slice aa n ca, .slice ab m cb], .string s] w fun e w' => e = .returned (.tuple #[.agg #[.slice none 0 0, .slice none 0 0, .slice none 0 0, .slice none 0 0], .bool false]) ∧ New w w' := by
  have HA := Lib.hid h1; clear h1
  have HB := Lib.hid h2; clear h2
  cases hf : fliB L F
  case false =>
    have HF := Lib.hid hf; clear hf hu
    go_enter Tryd.func41, Tryd.ntmps41
    go_wp2_with fail
    refine (iIsFlight_any _ _ _ _ _ _ _ L F (HA.out.new (by repeat (first | with_reducible exact New.refl _ | with_reducible assumption | refine New.drewN ?_ _ | refine New.drew ?_ | refine New.alloc ?_ _ | refine New.setCell ?_ (by first | omega | (simp; omega) | (simp; done)) _ | (refine New.trans ?_ (by assumption))))) (HB.out.new (by repeat (first | with_reducible exact New.refl _ | with_reducible assumption | refine New.drewN ?_ _ | refine New.drew ?_ | refine New.alloc ?_ _ | refine New.setCell ?_ (by first | omega | (simp; omega) | (simp; done)) _ | (refine New.trans ?_ (by assumption)))))).mono ?_
    rintro e w1 ⟨rfl, n1⟩
    have RS : Hid (Res4 w1 (w.heap.size + 1)) := Lib.hid ⟨n1.cell (by simp [go_sem]), n1.cell (by simp [go_sem]), n1.cell (by simp [go_sem]), n1.cell (by simp [go_sem]), n1.frz (v := .slice none 0 0) (by simp [go_sem]) (by simp [go_sem]), n1.frz (v := .slice none 0 0) (by simp [go_sem]) (by simp [go_sem]), n1.frz (v := .slice none 0 0) (by simp [go_sem]) (by simp [go_sem]), n1.frz (v := .slice none 0 0) (by simp [go_sem]) (by simp [go_sem])⟩
    have NW := Lib.hid (show New w w1 from New.trans (by repeat (first | with_reducible exact New.refl _ | with_reducible assumption | refine New.drewN ?_ _ | refine New.drew ?_ | refine New.alloc ?_ _ | refine New.setCell ?_ (by first | omega | (simp; omega) | (simp; done)) _ | (refine New.trans ?_ (by assumption)))) n1); clear n1
    rw [HF.out]
    obtain ⟨r0, r1, r2, r3, f0, f1, f2, f3⟩ := RS.out
    go_wp2
    refine bodyPost_ret (v := .tuple #[.agg #[.slice none 0 0, .slice none 0 0, .slice none 0 0, .slice none 0 0], .bool false]) (by simp [results, Tryd.results41, go_sem, r0, r1, r2, r3]) rfl ⟨rfl, ((((NW.out.setCell (by first | omega | (simp; omega) | (simp; done)) _).setCell (by first | omega | (simp; omega) | (simp; done)) _).setCell (by first | omega | (simp; omega) | (simp; done)) _).setCell (by first | omega | (simp; omega) | (simp; done)) _)⟩
  case true =>
    have ht : trB s = false := by unfold usB at hu; rw [hf] at hu; exact hu
    have HF := Lib.hid hf; clear hf hu
    have HT := Lib.hid ht; clear ht
    go_enter Tryd.func41, Tryd.ntmps41
    go_wp2_with fail
    refine (iIsFlight_any _ _ _ _ _ _ _ L F (HA.out.new (by repeat (first | with_reducible exact New.refl _ | with_reducible assumption | refine New.drewN ?_ _ | refine New.drew ?_ | refine New.alloc ?_ _ | refine New.setCell ?_ (by first | omega | (simp; omega) | (simp; done)) _ | (refine New.trans ?_ (by assumption))))) (HB.out.new (by repeat (first | with_reducible exact New.refl _ | with_reducible assumption | refine New.drewN ?_ _ | refine New.drew ?_ | refine New.alloc ?_ _ | refine New.setCell ?_ (by first | omega | (simp; omega) | (simp; done)) _ | (refine New.trans ?_ (by assumption)))))).mono ?_
    rintro e w1 ⟨rfl, n1⟩
    have RS : Hid (Res4 w1 (w.heap.size + 1)) := Lib.hid ⟨n1.cell (by simp [go_sem]), n1.cell (by simp [go_sem]), n1.cell (by simp [go_sem]), n1.cell (by simp [go_sem]), n1.frz (v := .slice none 0 0) (by simp [go_sem]) (by simp [go_sem]), n1.frz (v := .slice none 0 0) (by simp [go_sem]) (by simp [go_sem]), n1.frz (v := .slice none 0 0) (by simp [go_sem]) (by simp [go_sem]), n1.frz (v := .slice none 0 0) (by simp [go_sem]) (by simp [go_sem])⟩
    have NW := Lib.hid (show New w w1 from New.trans (by repeat (first | with_reducible exact New.refl _ | with_reducible assumption | refine New.drewN ?_ _ | refine New.drew ?_ | refine New.alloc ?_ _ | refine New.setCell ?_ (by first | omega | (simp; omega) | (simp; done)) _ | (refine New.trans ?_ (by assumption)))) n1); clear n1
    rw [HF.out]
    go_wp2_with fail
    refine (iIsTraffic_any _ s hs).mono ?_
    rintro e w2 ⟨rfl, n2⟩
    replace RS := Lib.hid (RS.out.new n2)
    replace NW := Lib.hid (NW.out.trans n2); clear n2
    rw [HT.out]
    obtain ⟨r0, r1, r2, r3, f0, f1, f2, f3⟩ := RS.out
    go_wp2
    refine bodyPost_ret (v := .tuple #[.agg #[.slice none 0 0, .slice none 0 0, .slice none 0 0, .slice none 0 0], .bool false]) (by simp [results, Tryd.results41, go_sem, r0, r1, r2, r3]) rfl ⟨rfl, ((((NW.out.setCell (by first | omega | (simp; omega) | (simp; done)) _).setCell (by first | omega | (simp; omega) | (simp; done)) _).setCell (by first | omega | (simp; omega) | (simp; done)) _).setCell (by first | omega | (simp; omega) | (simp; done)) _)⟩

set_option maxRecDepth 100000 in
set_option maxHeartbeats 1000000 in
theorem usedBy_any (w : World) (aa ab : Option Addr) (n m ca cb : Nat) (L : List Int) (F : List Bool) (s : ByteArray) (h1 : Ints w aa n ca L) (h2 : Bools w ab m cb F) (hu : usB L F s = true) :
    Calls Tryd.prog 41 #[.agg #[.slice aa n ca, .slice ab m cb], .string s] w (RetUs w L F s) := by
  obtain ⟨hf, ht⟩ := usB_iff.1 hu
  have hl := (fliB_iff.1 hf).1
  have hs := trB_le ht
  have HA := Lib.hid h1; clear h1
  have HB := Lib.hid h2; clear h2
  have HN := Lib.hid HA.out.len
  have HF := Lib.hid hf; clear hf hu
  have HT := Lib.hid ht; clear ht
  go_enter Tryd.func41, Tryd.ntmps41
  go_wp2_with fail
  refine (iIsFlight_any _ _ _ _ _ _ _ L F (HA.out.new (by repeat (first | with_reducible exact New.refl _ | with_reducible assumption | refine New.drewN ?_ _ | refine New.drew ?_ | refine New.alloc ?_ _ | refine New.setCell ?_ (by first | omega | (simp; omega) | (simp; done)) _ | (refine New.trans ?_ (by assumption))))) (HB.out.new (by repeat (first | with_reducible exact New.refl _ | with_reducible assumption | refine New.drewN ?_ _ | refine New.drew ?_ | refine New.alloc ?_ _ | refine New.setCell ?_ (by first | omega | (simp; omega) | (simp; done)) _ | (refine New.trans ?_ (by assumption)))))).mono ?_
  rintro e w0 ⟨rfl, n1⟩
  have a30 : w0.cell? ⟨w.heap.size, 0, none⟩ = some (.slice aa n ca) := n1.cell (by simp [go_sem])
  have a31 : w0.cell? ⟨w.heap.size, 1, none⟩ = some (.slice ab m cb) := n1.cell (by simp [go_sem])
  have RS : Hid (Res4 w0 (w.heap.size + 1)) := Lib.hid ⟨n1.cell (by simp [go_sem]), n1.cell (by simp [go_sem]), n1.cell (by simp [go_sem]), n1.cell (by simp [go_sem]), n1.frz (v := .slice none 0 0) (by simp [go_sem]) (by simp [go_sem]), n1.frz (v := .slice none 0 0) (by simp [go_sem]) (by simp [go_sem]), n1.frz (v := .slice none 0 0) (by simp [go_sem]) (by simp [go_sem]), n1.frz (v := .slice none 0 0) (by simp [go_sem]) (by simp [go_sem])⟩
  have NW := Lib.hid (show New w w0 from New.trans (by repeat (first | with_reducible exact New.refl _ | with_reducible assumption | refine New.drewN ?_ _ | refine New.drew ?_ | refine New.alloc ?_ _ | refine New.setCell ?_ (by first | omega | (simp; omega) | (simp; done)) _ | (refine New.trans ?_ (by assumption)))) n1); clear n1
  rw [HF.out]
  go_wp2_with fail
  refine (iIsTraffic_any _ s (by omega)).mono ?_
  rintro e w1 ⟨rfl, n2⟩
  replace a30 := n2.cell a30
  replace a31 := n2.cell a31
  replace RS := Lib.hid (RS.out.new n2)
  replace NW := Lib.hid (NW.out.trans n2); clear n2
  rw [HT.out]
  have y1 := RS.out.lt
  go_wp2_with fail
  refine (iUnused_any _ _ _ _ _ _ _ L F (HA.out.new NW.out) (HB.out.new NW.out) HF.out).mono ?_
  rintro e w2 ⟨b1, c1, bf, cf, bc, bn, rfl, rows, n2⟩
  have RW := Lib.hid rows; clear rows
  replace RS := Lib.hid (RS.out.new n2)
  have N2 := Lib.hid (NW.out.trans n2)
  have y2 := n2.size
  clear n2 a30 a31
  go_upto_region 4 with fail
  have hlo := RW.out.lo
  have hhi := RW.out.hi
  obtain ⟨w3, hw3⟩ : ∃ xx : World, xx = w2.alloc (.cells #[.slice (some ⟨b1, 0, none⟩) n c1, .slice (some ⟨bf, 0, none⟩) n cf, .slice (some ⟨bc, 0, none⟩) (n + 1) (n + 1), .slice (some ⟨bn, 0, none⟩) n n] 52) := ⟨_, rfl⟩
  rw [← hw3]
  have N3 := Lib.hid (show New w w3 by rw [hw3]; exact N2.out.alloc _)
  have n23 : New w2 w3 := by rw [hw3]; exact (New.refl _).alloc _
  have B3 := Lib.hid (show LkBox w3 w2.heap.size (some ⟨b1, 0, none⟩) c1 bf cf bc (L.length + 1) bn L.length L (newK F L.length) from
    (RW.out.new n23).box ⟨by omega, by omega, by omega⟩ (by rw [hw3, ← HN.out]; simp) (by rw [hw3, ← HN.out]; simp) (by rw [hw3, ← HN.out]; simp) (by rw [hw3, ← HN.out]; simp))
  have R3 := Lib.hid (RW.out.new n23)
  replace RS := Lib.hid (RS.out.new n23)
  have y3 := n23.size
  clear hw3 n23 RW
  obtain ⟨B, hB⟩ : ∃ B, B = w2.heap.size := ⟨_, rfl⟩
  rw [← hB] at B3 ⊢
  have yB : w1.heap.size ≤ B := by omega
  clear hB N2
  go_wp2_with fail
  go_loopw [21] (fun a wr => ∃ i : Nat, i ≤ s.size ∧ a = .int .i64 i ∧ LkBox wr B (some ⟨b1, 0, none⟩) c1 bf cf bc (L.length + 1) bn L.length L (stT L F s i) ∧ LkRows wr w1.heap.size b1 c1 bf cf bc (L.length + 1) bn L.length L (stT L F s i) ∧ Res4 wr (w.heap.size + 1) ∧ New w wr) (fun a _ => (s.size - (intOf a).toNat))
  case atStart => exact ⟨0, Nat.zero_le _, rfl, B3.out, R3.out, RS.out, N3.out⟩
  case round =>
    obtain ⟨i, hi, rfl, hbx, hrw, hrs, hn⟩ := hrel
    clear B3 R3 RS N3
    have BW := Lib.hid hbx; clear hbx
    have RW := Lib.hid hrw; clear hrw
    have RS := Lib.hid hrs; clear hrs
    have NW2 := Lib.hid hn; clear hn
    by_cases hlt : i < s.size
    · have hx := extract_one s i hlt
      go_wp2_with fail
      refine (run_any _ _ _ _ _ _ _ _ _ _ _ _ (byA s i == 117) BW.out hl.1 hl.2).mono ?_
      rintro e w4 ⟨rfl, b4, k4⟩
      have B4 := Lib.hid b4
      have R4 := Lib.hid (RW.out.after b4 k4); clear b4
      replace RS := Lib.hid (RS.out.chg k4 (by omega))
      have N4 := Lib.hid (show New w w4 from k4.new NW2.out (by rintro j (h | h | h) <;> omega)); clear k4
      go_wp2
      go_roundw
      case rel => exact ⟨i + 1, by omega, by go_num, by exact B4.out, by exact R4.out, RS.out, N4.out⟩
      case measure => simp [intOf]; omega
    · obtain rfl : i = s.size := by omega
      have c0 := BW.out.c0
      have c1' := BW.out.c1
      have c2' := BW.out.c2
      have c3' := BW.out.c3
      have yB2 : B < wr.heap.size := World.block_lt_of_cell? _ _ c0
      have y6 := RS.out.lt
      obtain ⟨r0, r1, r2, r3, f0, f1, f2, f3⟩ := RS.out
      go_wp2
      refine bodyPost_ret (v := .tuple #[.agg #[.slice (some ⟨b1, 0, none⟩) L.length c1, .slice (some ⟨bf, 0, none⟩) L.length cf, .slice (some ⟨bc, 0, none⟩) (L.length + 1) (L.length + 1), .slice (some ⟨bn, 0, none⟩) L.length L.length], .bool true]) (by simp [results, Tryd.results41, go_sem, r0, r1, r2, r3]) rfl ⟨b1, c1, bf, cf, bc, bn, rfl, ?_, ((((NW2.out.setCell (by first | omega | (simp; omega) | (simp; done)) _).setCell (by first | omega | (simp; omega) | (simp; done)) _).setCell (by first | omega | (simp; omega) | (simp; done)) _).setCell (by first | omega | (simp; omega) | (simp; done)) _)⟩
      have z := NW.out.size
      refine LkRows.low (((((RW.out.setCell ?_ _).setCell ?_ _).setCell ?_ _).setCell ?_ _)) (by omega) <;> (dsimp only; omega)
end Go.Proofs.YtmhcnomkkjgidaaDoor
