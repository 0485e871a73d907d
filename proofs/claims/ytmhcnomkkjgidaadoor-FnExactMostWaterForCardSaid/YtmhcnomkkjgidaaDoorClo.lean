/- Copies of rows: of numbers, of bools; the four rows of a flight's state. -/
import Derived.Test.YtmhcnomkkjgidaaDoorLk
import Derived.Test.YtmhcnomkkjgidaaDoorBlk
import Derived.Laws.AppendOwnNone
namespace Go.Proofs.YtmhcnomkkjgidaaDoor
open Go.RowKit

theorem madeCells_eq (z : Value) (n : Nat) : madeCells #[z] n = (List.replicate n z).toArray := by
  apply Array.ext
  · simp [size_madeCells]
  · intro i h1 h2
    simp [madeCells, Nat.mod_one]
theorem New.first0 {w2 w3 : World} (hg : w2.grownBy w3 none) : New w2 w3 := ⟨hg.os, hg.tape, hg.output, hg.size, fun k hk => hg.block k hk (by simp)⟩
theorem zeros_own (w : World) (n : Nat) (hn : n ≤ 9223372036854775807) : Own (w.alloc (.cells (List.replicate n (Value.int .i64 0)).toArray 3)) w.heap.size (w.heap.size + 1) (some ⟨w.heap.size, 0, none⟩) n n (List.replicate n 0) :=
  ⟨by simp, Nat.le_refl _, hn, .inr ⟨w.heap.size, fun j => .int .i64 ((List.replicate n (0 : Int))[j]?.getD 0), rfl, Nat.le_refl _, by omega, ⟨_, heap_alloc_new _ _, by simp, fun i hi => by simp [hi]⟩, fun j _ => rfl⟩⟩
/-- The block of a row that is not empty. -/
theorem Own.exact {w : World} {lo hi : Nat} {ao : Option Addr} {n cap : Nat} {l : List Int} (h : Own w lo hi ao n cap l) (hn : 0 < n) : ∃ b, ao = some ⟨b, 0, none⟩ ∧ lo ≤ b ∧ b < hi ∧ Own w b (b + 1) (some ⟨b, 0, none⟩) n cap l := by
  obtain ⟨h1, h2, h3, h4⟩ := h
  rcases h4 with h4 | ⟨b, f, rfl, hl, hh, r⟩
  · omega
  · exact ⟨b, rfl, hl, hh, h1, h2, h3, .inr ⟨b, f, rfl, Nat.le_refl _, by omega, r⟩⟩
theorem OwnBo.exact {w : World} {lo hi : Nat} {ao : Option Addr} {n cap : Nat} {l : List Bool} (h : OwnBo w lo hi ao n cap l) (hn : 0 < n) : ∃ b, ao = some ⟨b, 0, none⟩ ∧ lo ≤ b ∧ b < hi ∧ OwnBo w b (b + 1) (some ⟨b, 0, none⟩) n cap l := by
  obtain ⟨h1, h2, h3, h4⟩ := h
  rcases h4 with h4 | ⟨b, f, rfl, hl, hh, r⟩
  · omega
  · exact ⟨b, rfl, hl, hh, h1, h2, h3, .inr ⟨b, f, rfl, Nat.le_refl _, by omega, r⟩⟩
theorem Ints.adr {w : World} {ao : Option Addr} {n cap : Nat} {l : List Int} (h : Ints w ao n cap l) (hn : 0 < n) : ∃ ad, ao = some ad := by
  obtain ⟨b, o, e, _⟩ := h.at hn
  exact ⟨_, e⟩
theorem Bools.adr {w : World} {ao : Option Addr} {n cap : Nat} {l : List Bool} (h : Bools w ao n cap l) (hn : 0 < n) : ∃ ad, ao = some ad := by
  obtain ⟨b, o, e, _⟩ := h.at hn
  exact ⟨_, e⟩

set_option maxRecDepth 100000 in
theorem l1Own_any (w : World) (aa : Option Addr) (n ca : Nat) (l : List Int) (ha : Ints w aa n ca l) (hn : n ≤ 1048576) :
    Calls Tryd.prog 59 #[.slice aa n ca] w fun e w' => ∃ ao cap, e = .returned (.slice ao n cap) ∧ Own w' w.heap.size w'.heap.size ao n cap l ∧ New w w' := by
  have HA := Lib.hid ha; clear ha
  obtain ⟨i0, hi, hz0, hz1, hz2⟩ := info_parts Tryd.infoInt
  have hown0 : (w.alloc (.cells #[] 3)).ownsRow w.heap.size 3 1 (.slice (some ⟨w.heap.size, 0, none⟩) 0 0) 0 [] := World.ownsRow_made _ _ _ (Nat.le_refl _) (by decide) rfl
  go_enter Tryd.func59, Tryd.ntmps59
  cases aa with
  | none =>
    obtain ⟨hl, h2, h3, h4, h5⟩ := HA.out
    obtain rfl := h5 rfl
    have h0 : n = 0 := by omega
    subst h0
    have hl0 : l = [] := List.eq_nil_of_length_eq_zero hl.symm
    clear hl h2 h3 h4 h5
    go_wp2_with (at_builtin; refine wpList_append_own_none rfl _ _ 23 rfl w.heap.size 3 i0 1 Tryd.underlying23 hi _ _ _ rfl hown0 rfl ?_)
    go_ret
    refine ⟨_, _, rfl, ?_, (by repeat (first | with_reducible exact New.refl _ | with_reducible assumption | refine New.drewN ?_ _ | refine New.drew ?_ | refine New.alloc ?_ _ | refine New.setCell ?_ (by first | omega | (simp; omega) | (simp; done)) _ | (refine New.trans ?_ (by assumption))))⟩
    rw [hl0]
    exact (Own.nil (w.alloc (.cells #[] 3)) w.heap.size (w.alloc (.cells #[] 3)).heap.size).other (fun h => by cases h)
  | some ad =>
    go_wp2_with (at_builtin; refine wpList_append_own _ rfl _ _ 23 rfl w.heap.size 3 i0 (.int .i64 0) 1 8 Tryd.underlying23 hi hz0 hz1 hz2 rfl (by decide) _ _ _ rfl hown0 ad n ca (l.map (Value.int .i64)) rfl ?c0 ?c1 ?c2 ?c3 ?c4 ?c5 ?_)
    case c0 => simpa using HA.out.len.symm
    case c1 => exact (HA.out.new (by repeat (first | with_reducible exact New.refl _ | with_reducible assumption | refine New.drewN ?_ _ | refine New.drew ?_ | refine New.alloc ?_ _ | refine New.setCell ?_ (by first | omega | (simp; omega) | (simp; done)) _ | (refine New.trans ?_ (by assumption))))).source
    case c2 => intro u hu; simp at hu; obtain ⟨z, _, rfl⟩ := hu; rfl
    case c3 => unfold maxLen; omega
    case c4 => omega
    case c5 => simp
    intro v' w1 hown hgrow _
    obtain ⟨ao, cap, rfl, ho⟩ := Own.of_row (l := l) (by simpa using hown)
    have HO := Lib.hid ho; clear ho
    have HG := Lib.hid hgrow; clear hgrow
    clear hown hown0
    go_wp2
    go_ret
    exact ⟨ao, cap, rfl, HO.out, Below.grown ((New.refl w).alloc _) HG.out (by simp) (fun k hk => by simp [Value.ownBlock] at hk; omega)⟩

set_option maxRecDepth 100000 in
theorem cloneI_any (w : World) (aa : Option Addr) (n ca : Nat) (l : List Int) (ha : Ints w aa n ca l) (hn : n ≤ 1048576) (h0 : 0 < n) :
    Calls Tryd.prog 80 #[.slice aa n ca] w fun e w' => ∃ ao cap, e = .returned (.slice ao n cap) ∧ Own w' w.heap.size w'.heap.size ao n cap l ∧ New w w' := by
  have HA := Lib.hid ha; clear ha
  obtain ⟨ad, rfl⟩ := HA.out.adr h0
  have hnil : ∀ w : World, (binOp BinOp.eql 23 (.slice (some ad) n ca) (.slice none 0 0)).run Tryd.prog w = .ok (.bool false) w := fun _ => by kernel_rfl
  obtain ⟨i0, hi, hz0, hz1, hz2⟩ := info_parts Tryd.infoInt
  have hown0 : (w.alloc (.cells #[] 3)).ownsRow w.heap.size 3 1 (.slice (some ⟨w.heap.size, 0, none⟩) 0 0) 0 [] := World.ownsRow_made _ _ _ (Nat.le_refl _) (by decide) rfl
  go_enter Tryd.func80, Tryd.ntmps80
  go_wp2_with (at_builtin; refine wpList_append_own _ rfl _ _ 23 rfl w.heap.size 3 i0 (.int .i64 0) 1 8 Tryd.underlying23 hi hz0 hz1 hz2 rfl (by decide) _ _ _ rfl hown0 ad n ca (l.map (Value.int .i64)) rfl ?c0 ?c1 ?c2 ?c3 ?c4 ?c5 ?_)
  case c0 => simpa using HA.out.len.symm
  case c1 => exact (HA.out.new (by repeat (first | with_reducible exact New.refl _ | with_reducible assumption | refine New.drewN ?_ _ | refine New.drew ?_ | refine New.alloc ?_ _ | refine New.setCell ?_ (by first | omega | (simp; omega) | (simp; done)) _ | (refine New.trans ?_ (by assumption))))).source
  case c2 => intro u hu; simp at hu; obtain ⟨z, _, rfl⟩ := hu; rfl
  case c3 => unfold maxLen; omega
  case c4 => omega
  case c5 => simp
  intro v' w1 hown hgrow _
  obtain ⟨ao, cap, rfl, ho⟩ := Own.of_row (l := l) (by simpa using hown)
  have HO := Lib.hid ho; clear ho
  have HG := Lib.hid hgrow; clear hgrow
  clear hown hown0
  go_wp2
  go_ret
  exact ⟨ao, cap, rfl, HO.out, Below.grown ((New.refl w).alloc _) HG.out (by simp) (fun k hk => by simp [Value.ownBlock] at hk; omega)⟩

set_option maxRecDepth 100000 in
theorem cloneB_any (w : World) (aa : Option Addr) (n ca : Nat) (l : List Bool) (ha : Bools w aa n ca l) (hn : n ≤ 1048576) (h0 : 0 < n) :
    Calls Tryd.prog 81 #[.slice aa n ca] w fun e w' => ∃ ao cap, e = .returned (.slice ao n cap) ∧ OwnBo w' w.heap.size w'.heap.size ao n cap l ∧ New w w' := by
  have HA := Lib.hid ha; clear ha
  obtain ⟨ad, rfl⟩ := HA.out.adr h0
  have hnil : ∀ w : World, (binOp BinOp.eql 24 (.slice (some ad) n ca) (.slice none 0 0)).run Tryd.prog w = .ok (.bool false) w := fun _ => by kernel_rfl
  obtain ⟨i0, hi, hz0, hz1, hz2⟩ := info_parts Tryd.infoBool
  have hown0 : (w.alloc (.cells #[] 4)).ownsRow w.heap.size 4 1 (.slice (some ⟨w.heap.size, 0, none⟩) 0 0) 0 [] := World.ownsRow_made _ _ _ (Nat.le_refl _) (by decide) rfl
  go_enter Tryd.func81, Tryd.ntmps81
  go_wp2_with (at_builtin; refine wpList_append_own _ rfl _ _ 24 rfl w.heap.size 4 i0 (.bool false) 1 1 Tryd.underlying24 hi hz0 hz1 hz2 rfl (by decide) _ _ _ rfl hown0 ad n ca (l.map (Value.bool)) rfl ?c0 ?c1 ?c2 ?c3 ?c4 ?c5 ?_)
  case c0 => simpa using HA.out.len.symm
  case c1 => exact (HA.out.new (by repeat (first | with_reducible exact New.refl _ | with_reducible assumption | refine New.drewN ?_ _ | refine New.drew ?_ | refine New.alloc ?_ _ | refine New.setCell ?_ (by first | omega | (simp; omega) | (simp; done)) _ | (refine New.trans ?_ (by assumption))))).source
  case c2 => intro u hu; simp at hu; rcases hu with ⟨_, h⟩ | ⟨_, h⟩ <;> (rw [← h]; rfl)
  case c3 => unfold maxLen; omega
  case c4 => omega
  case c5 => simp
  intro v' w1 hown hgrow _
  obtain ⟨ao, cap, rfl, ho⟩ := OwnBo.of_row (l := l) (by simpa using hown)
  have HO := Lib.hid ho; clear ho
  have HG := Lib.hid hgrow; clear hgrow
  clear hown hown0
  go_wp2
  go_ret
  exact ⟨ao, cap, rfl, HO.out, Below.grown ((New.refl w).alloc _) HG.out (by simp) (fun k hk => by simp [Value.ownBlock] at hk; omega)⟩

/-- The four rows of a flight's state, all of the call's own, apart from each other, from lo on. -/
structure LkRows (w : World) (lo b1 c1 bf cf bc cc bn cn : Nat) (L : List Int) (s : LkS) : Prop where
  ok : LkOk L.length s
  r1 : Own w b1 (b1 + 1) (some ⟨b1, 0, none⟩) L.length c1 L
  rf : OwnBo w bf (bf + 1) (some ⟨bf, 0, none⟩) L.length cf s.F
  rc : Own w bc (bc + 1) (some ⟨bc, 0, none⟩) (L.length + 1) cc s.C
  rn : Own w bn (bn + 1) (some ⟨bn, 0, none⟩) L.length cn s.N
  ne : (bf ≠ bc ∧ bf ≠ bn ∧ bc ≠ bn) ∧ b1 ≠ bf ∧ b1 ≠ bc ∧ b1 ≠ bn
  lo : (lo ≤ b1 ∧ lo ≤ bf ∧ lo ≤ bc ∧ lo ≤ bn)
  hi : b1 < w.heap.size ∧ bf < w.heap.size ∧ bc < w.heap.size ∧ bn < w.heap.size
theorem LkRows.new {w w' : World} {lo b1 c1 bf cf bc cc bn cn : Nat} {L : List Int} {s : LkS} (h : LkRows w lo b1 c1 bf cf bc cc bn cn L s) (k : New w w') : LkRows w' lo b1 c1 bf cf bc cc bn cn L s :=
  ⟨h.ok, h.r1.new k, h.rf.new k, h.rc.new k, h.rn.new k, h.ne, h.lo, by have := h.hi; have := k.size; omega⟩
theorem LkRows.setCell {w : World} {lo b1 c1 bf cf bc cc bn cn : Nat} {L : List Int} {s : LkS} (h : LkRows w lo b1 c1 bf cf bc cc bn cn L s) {p : Addr} (hp : p.block ≠ b1 ∧ p.block ≠ bf ∧ p.block ≠ bc ∧ p.block ≠ bn) (v : Value) : LkRows (w.setCell p v) lo b1 c1 bf cf bc cc bn cn L s :=
  ⟨h.ok, h.r1.setCell (by omega) v, h.rf.setCell (by omega) v, h.rc.setCell (by omega) v, h.rn.setCell (by omega) v, h.ne, h.lo, by simpa using h.hi⟩
theorem LkRows.low {w : World} {lo lo' b1 c1 bf cf bc cc bn cn : Nat} {L : List Int} {s : LkS} (h : LkRows w lo b1 c1 bf cf bc cc bn cn L s) (hl : lo' ≤ lo) : LkRows w lo' b1 c1 bf cf bc cc bn cn L s :=
  ⟨h.ok, h.r1, h.rf, h.rc, h.rn, h.ne, by have := h.lo; omega, h.hi⟩
theorem LkRows.box {w : World} {lo b1 c1 bf cf bc cc bn cn B : Nat} {L : List Int} {s : LkS} (h : LkRows w lo b1 c1 bf cf bc cc bn cn L s) (hB : B ≠ bf ∧ B ≠ bc ∧ B ≠ bn)
    (c0 : w.cell? ⟨B, 0, none⟩ = some (.slice (some ⟨b1, 0, none⟩) L.length c1)) (k1 : w.cell? ⟨B, 1, none⟩ = some (.slice (some ⟨bf, 0, none⟩) L.length cf))
    (k2 : w.cell? ⟨B, 2, none⟩ = some (.slice (some ⟨bc, 0, none⟩) (L.length + 1) cc)) (k3 : w.cell? ⟨B, 3, none⟩ = some (.slice (some ⟨bn, 0, none⟩) L.length cn)) :
    LkBox w B (some ⟨b1, 0, none⟩) c1 bf cf bc cc bn cn L s :=
  ⟨h.ok, h.r1.ints, c0, k1, k2, k3, h.rf, h.rc, h.rn, ⟨h.ne.1, hB⟩, fun b e => by simp [blkOf] at e; have := h.ne.2; omega⟩
end Go.Proofs.YtmhcnomkkjgidaaDoor
