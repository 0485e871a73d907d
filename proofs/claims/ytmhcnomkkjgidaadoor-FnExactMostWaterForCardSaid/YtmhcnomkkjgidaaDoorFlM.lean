/- What a flight's functions come to. -/
import Derived.Test.YtmhcnomkkjgidaaDoorLkF
import Derived.Test.YtmhcnomkkjgidaaDoorClo
namespace Go.Proofs.YtmhcnomkkjgidaaDoor
open Go.RowKit

/-- A flight and whether there is one. -/
def RetFl (w : World) (R1 : List Int) (R2 : List Bool) (g : Bool) (e : Ending) (w' : World) : Prop :=
  ∃ sa n sc sb m sd, e = .returned (.tuple #[.agg #[.slice sa n sc, .slice sb m sd], .bool g]) ∧ OwnF w' w.heap.size w'.heap.size sa n sc sb m sd R1 R2 ∧ New w w'

def passB (L : List Int) (F : List Bool) (i : Int) (_up : Bool) : Bool := floB L F i
def passM (L : List Int) (F : List Bool) (i : Int) (up : Bool) : List Int × List Bool := if passB L F i up = true then (L, (passK L (newK F L.length) i.toNat up).F) else ([], [])
def fillB (L : List Int) (F : List Bool) (i : Int) : Bool := floB L F i && !(F[i.toNat]?.getD false)
def fillM (L : List Int) (F : List Bool) (i : Int) : List Int × List Bool := if fillB L F i = true then (L, (fillK L (newK F L.length) i.toNat).F) else ([], [])
def emptB (L : List Int) (F : List Bool) (i : Int) : Bool := floB L F i && F[i.toNat]?.getD false
def emptM (L : List Int) (F : List Bool) (i : Int) : List Int × List Bool := if emptB L F i = true then (L, (emptK L (newK F L.length) i.toNat).F) else ([], [])
def shipM (L : List Int) (F : List Bool) (up : Bool) : List Int × List Bool := if fliB L F = true then (L, (shipK L (newK F L.length) up).F) else ([], [])

theorem Chg.frz {P : Nat → Prop} {w w' : World} (h : Chg P w w') {p : Addr} {v : Value} (hc : w.cell? p = some v) (hf : w.frozen? p = false) (hp : ¬ P p.block) : w'.frozen? p = false :=
  (World.frozen?_of_block (h.block p.block (World.block_lt_of_cell? w p hc) hp)).trans hf
/-- A box of two cells that waits for a result. -/
structure Res2 (w : World) (B : Nat) : Prop where
  r0 : w.cell? ⟨B, 0, none⟩ = some (.slice none 0 0)
  r1 : w.cell? ⟨B, 1, none⟩ = some (.slice none 0 0)
  f0 : w.frozen? ⟨B, 0, none⟩ = false
  f1 : w.frozen? ⟨B, 1, none⟩ = false
theorem Res2.lt {w : World} {B : Nat} (h : Res2 w B) : B < w.heap.size := World.block_lt_of_cell? _ _ h.r0
theorem Res2.new {w w' : World} {B : Nat} (h : Res2 w B) (k : New w w') : Res2 w' B := ⟨k.cell h.r0, k.cell h.r1, k.frz h.r0 h.f0, k.frz h.r1 h.f1⟩
theorem Res2.chg {P : Nat → Prop} {w w' : World} {B : Nat} (h : Res2 w B) (k : Chg P w w') (hp : ¬ P B) : Res2 w' B := ⟨k.cell h.r0 hp, k.cell h.r1 hp, k.frz h.r0 h.f0 hp, k.frz h.r1 h.f1 hp⟩
theorem passM_no {L : List Int} {F : List Bool} {i : Int} {up : Bool} (h : passB L F i up = false) : passM L F i up = ([], []) := by unfold passM; rw [if_neg (by rw [h]; decide)]
theorem passM_small (L : List Int) (F : List Bool) (i : Int) (up : Bool) : (passM L F i up).1.length ≤ 6 ∧ (passM L F i up).2.length ≤ 6 := by
  unfold passM
  split
  · rename_i h
    have hf : fliB L F = true := by
      unfold passB floB at h
      cases q : fliB L F
      · rw [q] at h; simp at h
      · rfl
    obtain ⟨h1, h2, _⟩ := fliB_iff.1 hf
    have o := LkOk.newK F
    rw [h2] at o
    exact ⟨h1.2, by have := (o.passK L i.toNat up).f; dsimp only; omega⟩
  · exact ⟨by simp, by simp⟩
theorem fillM_no {L : List Int} {F : List Bool} {i : Int} (h : fillB L F i = false) : fillM L F i = ([], []) := by unfold fillM; rw [if_neg (by rw [h]; decide)]
theorem fillM_small (L : List Int) (F : List Bool) (i : Int) : (fillM L F i).1.length ≤ 6 ∧ (fillM L F i).2.length ≤ 6 := by
  unfold fillM
  split
  · rename_i h
    have hf : fliB L F = true := by
      unfold fillB floB at h
      cases q : fliB L F
      · rw [q] at h; simp at h
      · rfl
    obtain ⟨h1, h2, _⟩ := fliB_iff.1 hf
    have o := LkOk.newK F
    rw [h2] at o
    exact ⟨h1.2, by have := (o.fillK L i.toNat).f; dsimp only; omega⟩
  · exact ⟨by simp, by simp⟩
theorem emptM_no {L : List Int} {F : List Bool} {i : Int} (h : emptB L F i = false) : emptM L F i = ([], []) := by unfold emptM; rw [if_neg (by rw [h]; decide)]
theorem emptM_small (L : List Int) (F : List Bool) (i : Int) : (emptM L F i).1.length ≤ 6 ∧ (emptM L F i).2.length ≤ 6 := by
  unfold emptM
  split
  · rename_i h
    have hf : fliB L F = true := by
      unfold emptB floB at h
      cases q : fliB L F
      · rw [q] at h; simp at h
      · rfl
    obtain ⟨h1, h2, _⟩ := fliB_iff.1 hf
    have o := LkOk.newK F
    rw [h2] at o
    exact ⟨h1.2, by have := (o.emptK L i.toNat).f; dsimp only; omega⟩
  · exact ⟨by simp, by simp⟩
theorem shipM_no {L : List Int} {F : List Bool} {up : Bool} (h : fliB L F = false) : shipM L F up = ([], []) := by unfold shipM; rw [if_neg (by rw [h]; decide)]
theorem shipM_small (L : List Int) (F : List Bool) (up : Bool) : (shipM L F up).1.length ≤ 6 ∧ (shipM L F up).2.length ≤ 6 := by
  unfold shipM
  split
  · rename_i hf
    obtain ⟨h1, h2, _⟩ := fliB_iff.1 hf
    have o := LkOk.newK F
    rw [h2] at o
    exact ⟨h1.2, by have := (o.shipTo L up L.length).f; unfold shipK; dsimp only; omega⟩
  · exact ⟨by simp, by simp⟩
end Go.Proofs.YtmhcnomkkjgidaaDoor
