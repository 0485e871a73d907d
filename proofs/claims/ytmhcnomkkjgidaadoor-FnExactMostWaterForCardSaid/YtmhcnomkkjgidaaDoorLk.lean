/- Flights of locks on lists: chambers filled and emptied, ships, and the box of four slices in which they lie. -/
import Derived.Test.YtmhcnomkkjgidaaDoorHelpF
import Derived.Test.YtmhcnomkkjgidaaDoorAll
import Derived.Deep.RegionHeld3
namespace Go.Proofs.YtmhcnomkkjgidaaDoor
open Go.RowKit

def fliB (L : List Int) (F : List Bool) : Bool := (inB 1 6 (L.length : Int) && decide (F.length = L.length)) && allB 1 20 L
theorem fliB_iff {L : List Int} {F : List Bool} : fliB L F = true ↔ (1 ≤ L.length ∧ L.length ≤ 6) ∧ F.length = L.length ∧ ∀ j, j < L.length → 1 ≤ L[j]?.getD 0 ∧ L[j]?.getD 0 ≤ 20 := by
  unfold fliB
  rw [Bool.and_eq_true, Bool.and_eq_true, inB_iff, decide_eq_true_eq, allB_iff]
  constructor
  · rintro ⟨⟨⟨a, b⟩, c⟩, d⟩; exact ⟨⟨by omega, by omega⟩, c, d⟩
  · rintro ⟨⟨a, b⟩, c, d⟩; exact ⟨⟨⟨by omega, by omega⟩, c⟩, d⟩

/-- Which chambers are full, what the stretches have more, how often chambers were filled. -/
structure LkS where
  F : List Bool
  C : List Int
  N : List Int

def fillL (L : List Int) (s : LkS) (i : Nat) : LkS := ⟨s.F.set i true, s.C.set (i + 1) (wrap64 (s.C[i + 1]?.getD 0 - L[i]?.getD 0)), s.N.set i (wrap64 (s.N[i]?.getD 0 + 1))⟩
def emptL (L : List Int) (s : LkS) (i : Nat) : LkS := ⟨s.F.set i false, s.C.set i (wrap64 (s.C[i]?.getD 0 + L[i]?.getD 0)), s.N⟩
def fillK (L : List Int) (s : LkS) (i : Nat) : LkS := if s.F[i]?.getD false = true then s else fillL L s i
def emptK (L : List Int) (s : LkS) (i : Nat) : LkS := if s.F[i]?.getD false = true then emptL L s i else s
def passK (L : List Int) (s : LkS) (i : Nat) (up : Bool) : LkS := if up = true then fillK L (emptK L s i) i else emptK L (fillK L s i) i
def lockAt (n : Nat) (up : Bool) (k : Nat) : Nat := if up = true then k else n - 1 - k
def shipTo (L : List Int) (s : LkS) (up : Bool) : Nat → LkS
  | 0 => s
  | k + 1 => passK L (shipTo L s up k) (lockAt L.length up k) up
def shipK (L : List Int) (s : LkS) (up : Bool) : LkS := shipTo L s up L.length
def runK (L : List Int) (s : LkS) (T : List Bool) : LkS := T.foldl (shipK L) s
def newK (F : List Bool) (n : Nat) : LkS := ⟨F, List.replicate (n + 1) 0, List.replicate n 0⟩

structure LkOk (n : Nat) (s : LkS) : Prop where
  f : s.F.length = n
  c : s.C.length = n + 1
  n : s.N.length = n
theorem LkOk.fillL {n : Nat} {s : LkS} (h : LkOk n s) (L : List Int) (i : Nat) : LkOk n (fillL L s i) := ⟨by simp [Go.Proofs.YtmhcnomkkjgidaaDoor.fillL, h.f], by simp [Go.Proofs.YtmhcnomkkjgidaaDoor.fillL, h.c], by simp [Go.Proofs.YtmhcnomkkjgidaaDoor.fillL, h.n]⟩
theorem LkOk.emptL {n : Nat} {s : LkS} (h : LkOk n s) (L : List Int) (i : Nat) : LkOk n (emptL L s i) := ⟨by simp [Go.Proofs.YtmhcnomkkjgidaaDoor.emptL, h.f], by simp [Go.Proofs.YtmhcnomkkjgidaaDoor.emptL, h.c], by simp [Go.Proofs.YtmhcnomkkjgidaaDoor.emptL, h.n]⟩
theorem LkOk.fillK {n : Nat} {s : LkS} (h : LkOk n s) (L : List Int) (i : Nat) : LkOk n (fillK L s i) := by unfold Go.Proofs.YtmhcnomkkjgidaaDoor.fillK; split; exact h; exact h.fillL L i
theorem LkOk.emptK {n : Nat} {s : LkS} (h : LkOk n s) (L : List Int) (i : Nat) : LkOk n (emptK L s i) := by unfold Go.Proofs.YtmhcnomkkjgidaaDoor.emptK; split; exact h.emptL L i; exact h
theorem LkOk.passK {n : Nat} {s : LkS} (h : LkOk n s) (L : List Int) (i : Nat) (up : Bool) : LkOk n (passK L s i up) := by unfold Go.Proofs.YtmhcnomkkjgidaaDoor.passK; split; exact (h.emptK L i).fillK L i; exact (h.fillK L i).emptK L i
theorem LkOk.shipTo {n : Nat} {s : LkS} (h : LkOk n s) (L : List Int) (up : Bool) (k : Nat) : LkOk n (shipTo L s up k) := by
  induction k with
  | zero => exact h
  | succ k ih => exact ih.passK L _ up
theorem LkOk.newK (F : List Bool) : LkOk F.length (newK F F.length) := ⟨rfl, by simp [Go.Proofs.YtmhcnomkkjgidaaDoor.newK], by simp [Go.Proofs.YtmhcnomkkjgidaaDoor.newK]⟩

/-- A flight's state in a box of four slices: the lifts, then three rows that may be written. -/
structure LkBox (w : World) (B : Nat) (al : Option Addr) (cl bf cf bc cc bn cn : Nat) (L : List Int) (s : LkS) : Prop where
  ok : LkOk L.length s
  lift : Ints w al L.length cl L
  c0 : w.cell? ⟨B, 0, none⟩ = some (.slice al L.length cl)
  c1 : w.cell? ⟨B, 1, none⟩ = some (.slice (some ⟨bf, 0, none⟩) L.length cf)
  c2 : w.cell? ⟨B, 2, none⟩ = some (.slice (some ⟨bc, 0, none⟩) (L.length + 1) cc)
  c3 : w.cell? ⟨B, 3, none⟩ = some (.slice (some ⟨bn, 0, none⟩) L.length cn)
  rf : OwnBo w bf (bf + 1) (some ⟨bf, 0, none⟩) L.length cf s.F
  rc : Own w bc (bc + 1) (some ⟨bc, 0, none⟩) (L.length + 1) cc s.C
  rn : Own w bn (bn + 1) (some ⟨bn, 0, none⟩) L.length cn s.N
  ne : (bf ≠ bc ∧ bf ≠ bn ∧ bc ≠ bn) ∧ B ≠ bf ∧ B ≠ bc ∧ B ≠ bn
  nl : ∀ b, blkOf al = some b → b ≠ bf ∧ b ≠ bc ∧ b ≠ bn

theorem Ints.chg {P : Nat → Prop} {w w' : World} {ao : Option Addr} {n cap : Nat} {l : List Int} (h : Ints w ao n cap l) (k : Chg P w w') (hP : ∀ b, blkOf ao = some b → ¬ P b) : Ints w' ao n cap l := by
  obtain ⟨h1, h2, h3, h4, h5⟩ := h
  refine ⟨h1, h2, h3, fun j hj => ?_, h5⟩
  obtain ⟨b, o, e, hc⟩ := h4 j hj
  exact ⟨b, o, e, k.cell hc (hP b (by rw [e]; rfl))⟩

theorem LkBox.chg {P : Nat → Prop} {w w' : World} {B : Nat} {al : Option Addr} {cl bf cf bc cc bn cn : Nat} {L : List Int} {s : LkS} (h : LkBox w B al cl bf cf bc cc bn cn L s) (k : Chg P w w')
    (hB : ¬ P B) (h1 : ¬ P bf) (h2 : ¬ P bc) (h3 : ¬ P bn) (hl : ∀ b, blkOf al = some b → ¬ P b) : LkBox w' B al cl bf cf bc cc bn cn L s :=
  ⟨h.ok, h.lift.chg k hl, k.cell h.c0 hB, k.cell h.c1 hB, k.cell h.c2 hB, k.cell h.c3 hB,
    h.rf.chg k (fun b a1 a2 => (show b = bf by omega) ▸ h1), h.rc.chg k (fun b a1 a2 => (show b = bc by omega) ▸ h2), h.rn.chg k (fun b a1 a2 => (show b = bn by omega) ▸ h3), h.ne, h.nl⟩
theorem LkBox.new {w w' : World} {B : Nat} {al : Option Addr} {cl bf cf bc cc bn cn : Nat} {L : List Int} {s : LkS} (h : LkBox w B al cl bf cf bc cc bn cn L s) (k : New w w') : LkBox w' B al cl bf cf bc cc bn cn L s :=
  h.chg (P := fun _ => False) ⟨k.os, k.tape, k.output, k.size, fun i hi _ => k.block i hi⟩ id id id id (fun _ _ h => h)
theorem LkBox.setF {w : World} {B : Nat} {al : Option Addr} {cl bf cf bc cc bn cn : Nat} {L : List Int} {s : LkS} (h : LkBox w B al cl bf cf bc cc bn cn L s) {i : Nat} (hi : i < L.length) (z : Bool) :
    LkBox (w.setCell ⟨bf, i, none⟩ (.bool z)) B al cl bf cf bc cc bn cn L ⟨s.F.set i z, s.C, s.N⟩ := by
  have k : Chg (fun b => b = bf) w (w.setCell ⟨bf, i, none⟩ (.bool z)) := Chg.setCell (p := ⟨bf, i, none⟩) _
  obtain ⟨⟨n1, n2, n3⟩, n4, n5, n6⟩ := h.ne
  exact ⟨⟨by simpa using h.ok.f, h.ok.c, h.ok.n⟩, h.lift.chg k (fun b e => (h.nl b e).1), k.cell h.c0 n4, k.cell h.c1 n4, k.cell h.c2 n4, k.cell h.c3 n4, h.rf.store hi z,
    h.rc.chg k (fun b a1 a2 e => n1 (by omega)), h.rn.chg k (fun b a1 a2 e => n2 (by omega)), h.ne, h.nl⟩
theorem LkBox.setC {w : World} {B : Nat} {al : Option Addr} {cl bf cf bc cc bn cn : Nat} {L : List Int} {s : LkS} (h : LkBox w B al cl bf cf bc cc bn cn L s) {i : Nat} (hi : i < L.length + 1) (z : Int) :
    LkBox (w.setCell ⟨bc, i, none⟩ (.int .i64 z)) B al cl bf cf bc cc bn cn L ⟨s.F, s.C.set i z, s.N⟩ := by
  have k : Chg (fun b => b = bc) w (w.setCell ⟨bc, i, none⟩ (.int .i64 z)) := Chg.setCell (p := ⟨bc, i, none⟩) _
  obtain ⟨⟨n1, n2, n3⟩, n4, n5, n6⟩ := h.ne
  exact ⟨⟨h.ok.f, by simpa using h.ok.c, h.ok.n⟩, h.lift.chg k (fun b e => (h.nl b e).2.1), k.cell h.c0 n5, k.cell h.c1 n5, k.cell h.c2 n5, k.cell h.c3 n5,
    h.rf.chg k (fun b a1 a2 e => n1 (by omega)), h.rc.store hi z, h.rn.chg k (fun b a1 a2 e => n3 (by omega)), h.ne, h.nl⟩
theorem LkBox.setN {w : World} {B : Nat} {al : Option Addr} {cl bf cf bc cc bn cn : Nat} {L : List Int} {s : LkS} (h : LkBox w B al cl bf cf bc cc bn cn L s) {i : Nat} (hi : i < L.length) (z : Int) :
    LkBox (w.setCell ⟨bn, i, none⟩ (.int .i64 z)) B al cl bf cf bc cc bn cn L ⟨s.F, s.C, s.N.set i z⟩ := by
  have k : Chg (fun b => b = bn) w (w.setCell ⟨bn, i, none⟩ (.int .i64 z)) := Chg.setCell (p := ⟨bn, i, none⟩) _
  obtain ⟨⟨n1, n2, n3⟩, n4, n5, n6⟩ := h.ne
  exact ⟨⟨h.ok.f, h.ok.c, by simpa using h.ok.n⟩, h.lift.chg k (fun b e => (h.nl b e).2.2), k.cell h.c0 n6, k.cell h.c1 n6, k.cell h.c2 n6, k.cell h.c3 n6,
    h.rf.chg k (fun b a1 a2 e => n2 (by omega)), h.rc.chg k (fun b a1 a2 e => n3 (by omega)), h.rn.store hi z, h.ne, h.nl⟩
/-- What may be read and written of it. -/
theorem LkBox.atF {w : World} {B : Nat} {al : Option Addr} {cl bf cf bc cc bn cn : Nat} {L : List Int} {s : LkS} (h : LkBox w B al cl bf cf bc cc bn cn L s) {i : Nat} (hi : i < L.length) :
    w.cell? ⟨bf, i, none⟩ = some (.bool (s.F[i]?.getD false)) ∧ w.frozen? ⟨bf, i, none⟩ = false := by
  obtain ⟨b, e, _, _, _, r⟩ := h.rf.row hi
  cases e
  exact r i hi
theorem LkBox.atC {w : World} {B : Nat} {al : Option Addr} {cl bf cf bc cc bn cn : Nat} {L : List Int} {s : LkS} (h : LkBox w B al cl bf cf bc cc bn cn L s) {i : Nat} (hi : i < L.length + 1) :
    w.cell? ⟨bc, i, none⟩ = some (.int .i64 (s.C[i]?.getD 0)) ∧ w.frozen? ⟨bc, i, none⟩ = false := by
  obtain ⟨b, e, _, _, _, r⟩ := h.rc.row hi
  cases e
  exact r i hi
theorem LkBox.atN {w : World} {B : Nat} {al : Option Addr} {cl bf cf bc cc bn cn : Nat} {L : List Int} {s : LkS} (h : LkBox w B al cl bf cf bc cc bn cn L s) {i : Nat} (hi : i < L.length) :
    w.cell? ⟨bn, i, none⟩ = some (.int .i64 (s.N[i]?.getD 0)) ∧ w.frozen? ⟨bn, i, none⟩ = false := by
  obtain ⟨b, e, _, _, _, r⟩ := h.rn.row hi
  cases e
  exact r i hi
theorem LkBox.chg3 {w : World} {bf bc bn : Nat} {p : Addr} (hp : p.block = bf ∨ p.block = bc ∨ p.block = bn) (v : Value) : Chg (fun b => b = bf ∨ b = bc ∨ b = bn) w (w.setCell p v) :=
  (Chg.setCell (p := p) v).mono fun b e => by subst e; exact hp
end Go.Proofs.YtmhcnomkkjgidaaDoor
