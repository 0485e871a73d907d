/- Slices of bools: how they read, rows of the call's own, and the laws' helpers over them. -/
import Derived.Test.YtmhcnomkkjgidaaDoorHelp
namespace Go.Proofs.YtmhcnomkkjgidaaDoor
open Go.RowKit

def Bools (w : World) (ao : Option Addr) (n cap : Nat) (l : List Bool) : Prop :=
  n = l.length ∧ n ≤ cap ∧ n ≤ 9223372036854775807 ∧ (∀ j, j < n → ∃ b o, ao = some ⟨b, o, none⟩ ∧ w.cell? ⟨b, o + j, none⟩ = some (.bool (l[j]?.getD false))) ∧ (ao = none → cap = 0)
theorem Bools.new {w w' : World} {ao : Option Addr} {n cap : Nat} {l : List Bool} (h : Bools w ao n cap l) (k : New w w') : Bools w' ao n cap l := by
  obtain ⟨h1, h2, h3, h4, h5⟩ := h
  refine ⟨h1, h2, h3, fun j hj => ?_, h5⟩
  obtain ⟨b, o, e, hc⟩ := h4 j hj
  exact ⟨b, o, e, k.cell hc⟩
theorem Bools.len {w : World} {ao : Option Addr} {n cap : Nat} {l : List Bool} (h : Bools w ao n cap l) : n = l.length := h.1
theorem Bools.at {w : World} {ao : Option Addr} {n cap : Nat} {l : List Bool} (h : Bools w ao n cap l) {j : Nat} (hj : j < n) :
    ∃ b o, ao = some ⟨b, o, none⟩ ∧ w.cell? ⟨b, o + j, none⟩ = some (.bool (l[j]?.getD false)) ∧ b < w.heap.size := by
  obtain ⟨b, o, e, hc⟩ := h.2.2.2.1 j hj
  exact ⟨b, o, e, hc, World.block_lt_of_cell? w _ hc⟩
theorem Bools.nil (w : World) : Bools w none 0 0 [] := ⟨rfl, Nat.le_refl _, by omega, fun j hj => absurd hj (by omega), fun _ => rfl⟩
def OwnBo (w : World) (lo hi : Nat) (ao : Option Addr) (n cap : Nat) (l : List Bool) : Prop :=
  n = l.length ∧ n ≤ cap ∧ n ≤ 9223372036854775807 ∧ ((n = 0 ∧ (ao = none → cap = 0)) ∨ ∃ b f, ao = some ⟨b, 0, none⟩ ∧ lo ≤ b ∧ b < hi ∧ w.rowIs b 4 cap f ∧ ∀ j, j < n → f j = .bool (l[j]?.getD false))
theorem OwnBo.reads {w : World} {lo hi : Nat} {ao : Option Addr} {n cap : Nat} {l : List Bool} (h : OwnBo w lo hi ao n cap l) : Bools w ao n cap l := by
  obtain ⟨h1, h2, h3, h4⟩ := h
  refine ⟨h1, h2, h3, fun j hj => ?_, fun e => ?_⟩
  · rcases h4 with h4 | ⟨b, f, rfl, _, _, hr, hf⟩
    · omega
    · refine ⟨b, 0, rfl, ?_⟩
      have := hr.cell (i := j) (by omega)
      rw [Nat.zero_add, this, hf j hj]
  · rcases h4 with h4 | ⟨b, f, rfl, _, _, hr, hf⟩
    · exact h4.2 e
    · cases e
theorem OwnBo.turned {w w' : World} {lo hi : Nat} {ao : Option Addr} {n cap : Nat} {l : List Bool} (h : OwnBo w lo hi ao n cap l)
    (k : ∀ b, n ≠ 0 → blkOf ao = some b → b < w.heap.size → w'.heap[b]? = w.heap[b]?) : OwnBo w' lo hi ao n cap l := by
  obtain ⟨h1, h2, h3, h4⟩ := h
  refine ⟨h1, h2, h3, ?_⟩
  rcases h4 with h4 | ⟨b, f, rfl, hl, hh, hr, hf⟩
  · exact .inl h4
  · by_cases h0 : n = 0
    · exact .inl ⟨h0, fun e => by cases e⟩
    · exact .inr ⟨b, f, rfl, hl, hh, hr.of_block (k b h0 rfl hr.lt), hf⟩
theorem OwnBo.new {w w' : World} {lo hi : Nat} {ao : Option Addr} {n cap : Nat} {l : List Bool} (h : OwnBo w lo hi ao n cap l) (k : New w w') : OwnBo w' lo hi ao n cap l :=
  h.turned fun b _ _ hb => k.block b hb
theorem OwnBo.mono {w : World} {lo hi lo' hi' : Nat} {ao : Option Addr} {n cap : Nat} {l : List Bool} (h : OwnBo w lo hi ao n cap l) (h1 : lo' ≤ lo) (h2 : hi ≤ hi') : OwnBo w lo' hi' ao n cap l := by
  obtain ⟨a, b, c, d⟩ := h
  refine ⟨a, b, c, ?_⟩
  rcases d with d | ⟨b, f, e, hl, hh, r⟩
  · exact .inl d
  · exact .inr ⟨b, f, e, by omega, by omega, r⟩
theorem OwnBo.bounds {w : World} {lo hi : Nat} {ao : Option Addr} {n cap : Nat} {l : List Bool} (h : OwnBo w lo hi ao n cap l) (hn : n ≠ 0) {b : Nat} (hb : blkOf ao = some b) : lo ≤ b ∧ b < hi := by
  rcases h.2.2.2 with d | ⟨b', f, rfl, hl, hh, r⟩
  · exact absurd d.1 hn
  · simp [blkOf] at hb; omega
theorem OwnBo.has {w : World} {lo hi : Nat} {ao : Option Addr} {n cap : Nat} {l : List Bool} (h : OwnBo w lo hi ao n cap l) (hn : n ≠ 0) (hb : blkOf ao = none) : False := by
  rcases h.2.2.2 with d | ⟨b', f, rfl, hl, hh, r⟩
  · exact hn d.1
  · simp [blkOf] at hb
theorem OwnBo.lt {w : World} {lo hi : Nat} {ao : Option Addr} {n cap : Nat} {l : List Bool} (h : OwnBo w lo hi ao n cap l) (hn : n ≠ 0) {b : Nat} (hb : blkOf ao = some b) : b < w.heap.size := by
  rcases h.2.2.2 with d | ⟨b', f, rfl, hl, hh, r, _⟩
  · exact absurd d.1 hn
  · have := r.lt
    simp [blkOf] at hb; omega
theorem OwnBo.chg {P : Nat → Prop} {w w' : World} {lo hi : Nat} {ao : Option Addr} {n cap : Nat} {l : List Bool} (h : OwnBo w lo hi ao n cap l) (k : Chg P w w') (hP : ∀ b, lo ≤ b → b < hi → ¬ P b) : OwnBo w' lo hi ao n cap l :=
  h.turned fun b hn hb hlt => k.block b hlt (hP b (h.bounds hn hb).1 (h.bounds hn hb).2)
theorem OwnBo.setCell {w : World} {lo hi : Nat} {ao : Option Addr} {n cap : Nat} {l : List Bool} (h : OwnBo w lo hi ao n cap l) {p : Addr} (hp : p.block < lo ∨ hi ≤ p.block) (u : Value) : OwnBo (w.setCell p u) lo hi ao n cap l :=
  h.chg (Chg.setCell u) (fun b _ _ e => by omega)
theorem OwnBo.nil (w : World) (lo hi : Nat) : OwnBo w lo hi none 0 0 [] := ⟨rfl, Nat.le_refl _, by omega, .inl ⟨rfl, fun _ => rfl⟩⟩
theorem OwnBo.zero {w w' : World} {lo hi : Nat} {ao : Option Addr} {cap : Nat} {l : List Bool} (h : OwnBo w lo hi ao 0 cap l) : OwnBo w' lo hi ao 0 cap [] := by
  obtain ⟨a, b, c, d⟩ := h
  refine ⟨rfl, b, c, .inl ⟨rfl, ?_⟩⟩
  rcases d with d | ⟨b', f, rfl, _⟩
  · exact d.2
  · exact fun e => by cases e
theorem OwnBo.of_row {w : World} {base : Nat} {v : Value} {n : Nat} {l : List Bool} (h : w.ownsRow base 4 1 v n (l.map (Value.bool))) :
    ∃ ao cap, v = .slice ao n cap ∧ OwnBo w base w.heap.size ao n cap l := by
  obtain ⟨hl, h⟩ := h
  have hlen : n = l.length := by simpa using hl.symm
  rcases h with ⟨rfl, rfl⟩ | ⟨g, cap, cur, rfl, hb, hh, hn, hm, hs, ht⟩
  · exact ⟨none, 0, rfl, hlen, Nat.le_refl _, by omega, .inl ⟨rfl, fun _ => rfl⟩⟩
  · refine ⟨_, cap, rfl, hlen, hn, by unfold maxLen at hm; omega, .inr ⟨g, fun j => cur[j]?.getD undef, rfl, hb, (Array.getElem?_eq_some_iff.1 hh).1, ⟨cur, hh, by omega, fun i hi => ?_⟩, fun j hj => ?_⟩⟩
    · simp [Array.getElem?_eq_getElem (show i < cur.size by omega)]
    · have e : (cur.toList.take (n * 1))[j]? = (l.map (Value.bool))[j]? := by rw [ht]
      rw [List.getElem?_take, if_pos (by omega)] at e
      have hj' : j < l.length := by omega
      have e' : cur[j]? = some (.bool l[j]) := by simpa [hj'] using e
      simp [e', List.getElem?_eq_getElem hj']
theorem OwnBo.other {w : World} {lo hi : Nat} {ao ao' : Option Addr} {cap cap' : Nat} (_h : OwnBo w lo hi ao 0 cap []) (h : ao' = none → cap' = 0) : OwnBo w lo hi ao' 0 cap' [] :=
  ⟨rfl, Nat.zero_le _, by omega, .inl ⟨rfl, h⟩⟩
theorem Bools.source {w : World} {ad : Addr} {n cap : Nat} {l : List Bool} (h : Bools w (some ad) n cap l) : ∀ j u, (l.map (Value.bool))[j]? = some u → w.cell? (ad.add j) = some u := by
  intro j u hu
  have hj : j < l.length := by
    have := (List.getElem?_eq_some_iff.1 hu).1
    simpa using this
  obtain ⟨b, o, e, hc, _⟩ := h.at (j := j) (by have := h.len; omega)
  cases e
  have ha : (⟨b, o, none⟩ : Addr).add j = ⟨b, o + j, none⟩ := by unfold Addr.add; split <;> simp_all
  rw [ha, hc]
  rw [List.getElem?_map, List.getElem?_eq_getElem hj] at hu
  rw [List.getElem?_eq_getElem hj]
  simpa using hu
theorem OwnBo.row {w : World} {lo hi : Nat} {ao : Option Addr} {n cap : Nat} {l : List Bool} (h : OwnBo w lo hi ao n cap l) {j : Nat} (hj : j < n) :
    ∃ b, ao = some ⟨b, 0, none⟩ ∧ lo ≤ b ∧ b < hi ∧ b < w.heap.size ∧ ∀ i, i < n → w.cell? ⟨b, i, none⟩ = some (.bool (l[i]?.getD false)) ∧ w.frozen? ⟨b, i, none⟩ = false := by
  obtain ⟨h1, h2, h3, h4⟩ := h
  rcases h4 with h4 | ⟨b, f, rfl, hl, hh, hr, hf⟩
  · omega
  · exact ⟨b, rfl, hl, hh, hr.lt, fun i hi => ⟨by rw [hr.cell (by omega), hf i hi], hr.frozen i⟩⟩
theorem OwnBo.store {w : World} {lo hi : Nat} {b n cap : Nat} {l : List Bool} (h : OwnBo w lo hi (some ⟨b, 0, none⟩) n cap l) {j : Nat} (hj : j < n) (z : Bool) : OwnBo (w.setCell ⟨b, j, none⟩ (.bool z)) lo hi (some ⟨b, 0, none⟩) n cap (l.set j z) := by
  obtain ⟨h1, h2, h3, h4⟩ := h
  rcases h4 with h4 | ⟨b', f, e, hl, hh, hr, hf⟩
  · omega
  · cases e
    refine ⟨by simpa using h1, h2, h3, .inr ⟨b, _, rfl, hl, hh, hr.set j _, fun i hi => ?_⟩⟩
    by_cases e : i = j
    · subst e
      simp [show i < l.length by omega]
    · rw [if_neg e, hf i hi, List.getElem?_set, if_neg (fun h => e h.symm)]

theorem ext_getDB {l m : List Bool} (h : l.length = m.length) (k : ∀ j, j < l.length → l[j]?.getD false = m[j]?.getD false) : l = m := by
  apply List.ext_getElem h
  intro i h1 h2
  have := k i h1
  simpa [List.getElem?_eq_getElem h1, List.getElem?_eq_getElem h2] using this

def marksB (k : Int) (n : Nat) : List Bool := (List.range n).map (fun (j : Nat) => (k + (j : Int)) % 3 == 0)
theorem marksB_length (k : Int) (n : Nat) : (marksB k n).length = n := by simp [marksB]
theorem marksB_get (k : Int) (n j : Nat) (h : j < n) : (marksB k n)[j]?.getD false = ((k + (j : Int)) % 3 == 0) := by simp [marksB, h]
theorem Tryd.infoBool : (Tryd.prog.info? 4).map (fun i => (i.zero, i.size, i.bytes)) = some (some (.bool false), 1, 1) := by kernel_rfl

theorem eqBoolS_any (w : World) (aa ab : Option Addr) (n m ca cb : Nat) (la lb : List Bool) (ha : Bools w aa n ca la) (hb : Bools w ab m cb lb) :
    Calls Tryd.prog 42 #[.slice aa n ca, .slice ab m cb] w fun e w' => e = .returned (.bool (decide (la = lb))) ∧ ∃ k, w' = w.drewN k := by
  have hma := ha.2.2.1
  have hmb := hb.2.2.1
  have HA := Lib.hid ha; clear ha
  have HB := Lib.hid hb; clear hb
  by_cases hnm : n = m
  · subst hnm
    go_enter Tryd.func42, Tryd.ntmps42
    go_wp2
    go_loopw [5] (fun i wr => ∃ k : Nat, k ≤ n ∧ i = .int .i64 k ∧ (∀ j, j < k → la[j]?.getD false = lb[j]?.getD false) ∧ ∃ q, wr = w.drewN q) (fun i _ => n - (intOf i).toNat)
    case atStart => exact ⟨0, Nat.zero_le _, rfl, fun j hj => absurd hj (by omega), 0, rfl⟩
    case round =>
      obtain ⟨k, hk, rfl, hpre, q, rfl⟩ := hrel
      have HP := Lib.hid hpre; clear hpre
      by_cases hlt : k < n
      · obtain ⟨ba, oa, rfl, ga, _⟩ := HA.out.at hlt
        obtain ⟨bb, ob, rfl, gb, _⟩ := HB.out.at hlt
        go_wp2
        go_quiet (fail)
        go_wp2
        · have hne : (la[k]?.getD false != lb[k]?.getD false) = true := by assumption
          go_ret
          refine ⟨ret_bool ?_, q + nq, by simp⟩
          refine (decide_eq_false fun h => ?_).symm
          subst h
          simp at hne
        · have hne : (la[k]?.getD false != lb[k]?.getD false) = false := by assumption
          go_roundw
          case rel =>
            refine ⟨k + 1, by omega, by go_num, fun j hj => ?_, q + nq, rfl⟩
            by_cases e : j = k
            · subst e; simpa using hne
            · exact HP.out j (by omega)
          case measure => simp [intOf]; omega
      · go_wp2
        go_ret
        refine ⟨ret_bool (decide_eq_true ?_).symm, q, rfl⟩
        exact ext_getDB (HA.out.len.symm.trans HB.out.len) (fun j hj => HP.out j (by have := HA.out.len; omega))
  · go_enter Tryd.func42, Tryd.ntmps42
    go_wp2
    go_ret
    refine ⟨ret_bool (decide_eq_false fun h => hnm ?_).symm, 0, rfl⟩
    rw [HA.out.len, HB.out.len, h]

theorem szBoolS_any (w : World) (aa : Option Addr) (n ca : Nat) (left : Int) (hn : n ≤ 9223372036854775807) (h0 : 0 ≤ left) (h1 : left ≤ 1048576) :
    Calls Tryd.prog 35 #[.slice aa n ca, .int .i64 left] w fun e w' => ∃ r : Int, e = .returned (.int .i64 r) ∧ -1 ≤ r ∧ r ≤ left ∧ SzOk left n r ∧ w = w' := by
  by_cases h : left < n
  · go_enter Tryd.func35, Tryd.ntmps35
    go_wp2
    go_ret
    exact ⟨-1, rfl, by omega, by omega, fun h => absurd h (by omega), rfl⟩
  · go_enter Tryd.func35, Tryd.ntmps35
    go_wp2
    go_ret
    exact ⟨left - n, rfl, by omega, by omega, fun _ => ⟨by omega, rfl⟩, rfl⟩

theorem toBoolS_any (w : World) (aa : Option Addr) (n ca : Nat) (l : List Bool) (ha : Bools w aa n ca l) (hn : n ≤ 1048576) :
    Calls Tryd.prog 40 #[.slice aa n ca] w fun e w' => ∃ ao cap, e = .returned (.slice ao n cap) ∧ OwnBo w' w.heap.size w'.heap.size ao n cap l ∧ New w w' := by
  have HA := Lib.hid ha; clear ha
  have hmk := run_make_row' (P := Tryd.prog) 24 4 (.bool false) 1 Tryd.underlying24 Tryd.infoBool rfl .i64 .i64 n (by omega) (by omega)
  go_enter Tryd.func40, Tryd.ntmps40
  go_wp2
  go_loopw [4] (fun i wr => ∃ (k : Nat) (f : Nat → Value), k ≤ n ∧ i = .int .i64 k ∧ wr.rowIs w.heap.size 4 n f ∧ (∀ j, j < k → f j = .bool (l[j]?.getD false)) ∧ (∀ j, ∃ z, f j = .bool z) ∧ New w wr)
    (fun i _ => n - (intOf i).toNat)
  case atStart => exact ⟨0, _, Nat.zero_le _, rfl, World.rowIs_made _ _ _ _, fun j hj => absurd hj (by omega), fun _ => ⟨false, rfl⟩, (New.refl w).alloc _⟩
  case round =>
    obtain ⟨k, f, hk, rfl, hrow, hf, hz, hnew⟩ := hrel
    have HR := Lib.hid hrow; clear hrow
    have HF := Lib.hid hf; clear hf
    have HZ := Lib.hid hz; clear hz
    have HN := Lib.hid hnew; clear hnew
    by_cases hlt : k < n
    · obtain ⟨b, o, rfl, hc, _⟩ := HA.out.at hlt
      have hc' := HN.out.cell hc
      obtain ⟨z, ez⟩ := HZ.out k
      have hd : wr.cell? ⟨w.heap.size, k, none⟩ = some (.bool z) := by rw [HR.out.cell hlt, ez]
      have hfz := HR.out.frozen k
      clear hc ez
      go_wp2
      go_roundw
      case rel =>
        refine ⟨k + 1, _, by omega, by go_num, HR.out.set k _, fun j hj => ?_, fun j => ?_, HN.out.setCell (Nat.le_refl _) _⟩
        · by_cases e : j = k
          · simp [e]
          · simp only [e, if_false]; exact HF.out j (by omega)
        · by_cases e : j = k
          · simp [e]
          · simp only [e, if_false]; exact HZ.out j
      case measure => simp [intOf]; omega
    · go_wp2
      go_ret
      obtain rfl : k = n := by omega
      refine ⟨_, _, rfl, ⟨HA.out.len, Nat.le_refl _, HA.out.2.2.1, .inr ⟨w.heap.size, f, rfl, Nat.le_refl _, HR.out.lt, HR.out, HF.out⟩⟩, HN.out⟩

theorem markBoolS_any (w : World) (lo hi : Nat) (ao : Option Addr) (n cap : Nat) (l : List Bool) (x : Int) (ha : OwnBo w lo hi ao n cap l) (h0 : 0 ≤ x) (h1 : x + n ≤ 4611686018427387904) :
    Calls Tryd.prog 43 #[.slice ao n cap, .int .i64 x] w fun e w' => e = .returned (.int .i64 (x + n)) ∧ OwnBo w' lo hi ao n cap (marksB x n) ∧ Chg (fun b => n ≠ 0 ∧ blkOf ao = some b) w w' := by
  have HA := Lib.hid ha; clear ha
  by_cases hn : n = 0
  · subst hn
    go_enter Tryd.func43, Tryd.ntmps43
    go_wp2
    refine wp_loop_rounds 1 ?_
    rw [rounds_succ]
    go_wp2
    go_ret
    refine ⟨ret_int (by simp), by simpa [marksB] using HA.out.zero, Chg.refl _ _⟩
  · obtain ⟨hl, hc, hm, b, f, rfl, hlo, hhi, hrow, hf⟩ : n = l.length ∧ n ≤ cap ∧ n ≤ 9223372036854775807 ∧ ∃ b f, ao = some ⟨b, 0, none⟩ ∧ lo ≤ b ∧ b < hi ∧ w.rowIs b 4 cap f ∧ ∀ j, j < n → f j = .bool (l[j]?.getD false) := by
      obtain ⟨a, b, c, d⟩ := HA.out
      exact ⟨a, b, c, d.resolve_left (fun h => hn h.1)⟩
    have HL := Lib.hid hl; clear hl
    have HF := Lib.hid hf; clear hf
    have HR := Lib.hid hrow; clear hrow
    go_enter Tryd.func43, Tryd.ntmps43
    go_wp2
    go_loopw [1, 5] (fun y i wr => ∃ (k : Nat) (g : Nat → Value), k ≤ n ∧ i = .int .i64 k ∧ y = .int .i64 (x + k) ∧ wr.rowIs b 4 cap g ∧ (∀ j, j < k → g j = .bool ((x + (j : Int)) % 3 == 0)) ∧ (∀ j, k ≤ j → g j = f j) ∧ Chg (fun b' => n ≠ 0 ∧ blkOf (some ⟨b, 0, none⟩) = some b') w wr)
      (fun _ i _ => n - (intOf i).toNat)
    case atStart => exact ⟨0, f, Nat.zero_le _, rfl, by simp, HR.out, fun j hj => absurd hj (by omega), fun _ _ => rfl, Chg.refl _ _⟩
    case round =>
      obtain ⟨k, g, hk, rfl, rfl, hrow, hg, hg', hchg⟩ := hrel
      have HG := Lib.hid hg; clear hg
      have HG' := Lib.hid hg'; clear hg'
      have HW := Lib.hid hrow; clear hrow
      have HC := Lib.hid hchg; clear hchg
      by_cases hlt : k < n
      · have hd : wr.cell? ⟨b, k, none⟩ = some (.bool (l[k]?.getD false)) := by rw [HW.out.cell (by omega), HG'.out k (Nat.le_refl _), HF.out k hlt]
        have hfz := HW.out.frozen k
        go_wp2
        go_roundw
        case rel =>
          refine ⟨k + 1, _, by omega, by go_num, by go_num, HW.out.set k _, fun j hj => ?_, fun j hj => ?_, HC.out.trans ⟨rfl, rfl, rfl, by simp [World.setCell], fun i _ hp => Below.heap_setCell _ _ _ _ (fun e => hp ⟨hn, by simp [blkOf, e]⟩)⟩⟩
          · by_cases e : j = k
            · simp [e]
            · simp only [e, if_false]; exact HG.out j (by omega)
          · rw [if_neg (by omega)]; exact HG'.out j (by omega)
        case measure => simp [intOf]; omega
      · go_wp2
        go_ret
        obtain rfl : k = n := by omega
        refine ⟨rfl, ⟨(marksB_length _ _).symm, hc, hm, .inr ⟨b, g, rfl, hlo, hhi, HW.out, fun j hj => ?_⟩⟩, HC.out⟩
        rw [HG.out j hj, marksB_get _ _ _ hj]

theorem heldBoolS_any (w : World) (ao : Option Addr) (n cap : Nat) (x : Int) (ha : Bools w ao n cap (marksB x n)) (h0 : 0 ≤ x) (h1 : x + n ≤ 4611686018427387904) :
    Calls Tryd.prog 44 #[.slice ao n cap, .int .i64 x] w fun e w' => e = .returned (.int .i64 (x + n)) ∧ ∃ q, w' = w.drewN q := by
  have HA := Lib.hid ha; clear ha
  have hm := HA.out.2.2.1
  go_enter Tryd.func44, Tryd.ntmps44
  go_wp2
  go_loopw [1, 5] (fun y i wr => ∃ k q : Nat, k ≤ n ∧ i = .int .i64 k ∧ y = .int .i64 (x + k) ∧ wr = w.drewN q) (fun _ i _ => n - (intOf i).toNat)
  case atStart => exact ⟨0, 0, Nat.zero_le _, rfl, by simp, rfl⟩
  case round =>
    obtain ⟨k, q, hk, rfl, rfl, rfl⟩ := hrel
    by_cases hlt : k < n
    · obtain ⟨b, o, rfl, hc, _⟩ := HA.out.at hlt
      rw [marksB_get _ _ _ hlt] at hc
      go_wp2
      go_roundw
      case rel => exact ⟨k + 1, q, by omega, by go_num, by go_num, rfl⟩
      case measure => simp [intOf]; omega
    · go_wp2
      go_ret
      obtain rfl : k = n := by omega
      exact ⟨rfl, q, rfl⟩
end Go.Proofs.YtmhcnomkkjgidaaDoor
