/- Slices of slices as arguments: what they read as, their size, their copies. -/
import Derived.Test.YtlhpkpfnaepgbaaIntSS
import Derived.Test.YtlhpkpfnaepgbaaOpen0
import Derived.Deep.Slices
import Derived.Deep.SlicePairs
namespace Go.Proofs.Ytlhpkpfnaepgbaa
open Go.RowKit

open Go.ChangeShapes Go.WideShapes Go.ChangeAt Go.Deep in
set_option maxRecDepth 100000 in
theorem IntSS.of_trod {H : Type} {enc : TypeId × Value → H} {W : World} {fuel : Nat} {v : Value} {x : DataW H × List MemPlace}
    (h : DataW.trod enc Try.prog W 0 (fun _ => true) true fuel 23 [v] = some x) : ∃ ao n cap L, v = .slice ao n cap ∧ IntSS W ao n cap L := by
  have ce : Try.prog.cellsOf 43 = 1 := by kernel_rfl
  rcases open_slice Try.underlying23 h with ⟨hcs, _⟩ | ⟨a, len, cap, m, nn, D, Pl, hcs, _, hl, hm, hmm, _, hx⟩
  · simp at hcs
    exact ⟨none, 0, 0, [], hcs, rfl, Nat.le_refl _, by omega, fun j hj => absurd hj (by omega), fun _ => rfl⟩
  · simp at hcs hmm
    have each : ∀ i, i < len → ∃ q : List Int × Option Addr × Nat × Nat, W.cell? (a.add i) = some (.slice q.2.1 q.2.2.1 q.2.2.2) ∧ Ints W q.2.1 q.2.2.1 q.2.2.2 q.1 := fun i hi => by
      obtain ⟨cs', h1, h2⟩ := hx i (by omega)
      rw [ce] at h1
      obtain ⟨_, hlen, hcell⟩ := World.cells?_some h1
      match cs', hlen with
      | [v0], _ =>
        have e0 := hcell 0 (by omega)
        rw [add_add] at e0
        obtain ⟨ao, n, c, l, rfl, hi'⟩ := Ints.of_trod h2
        refine ⟨(l, ao, n, c), ?_, hi'⟩
        simpa using e0
    obtain ⟨p, hp⟩ := choose_lt each
    refine ⟨some a, len, cap, (List.range len).map fun i => (p i).1, hcs, by simp, hl, by unfold maxLen at hm; omega, fun j hj => ?_, fun e => by cases e⟩
    obtain ⟨c0, i0⟩ := hp j hj
    obtain ⟨d0, _⟩ := hp 0 (by omega)
    obtain ⟨b, o, spot⟩ := a
    have hs' : spot = none := by simpa [Addr.add] using World.cell?_spot d0
    subst hs'
    have ha : ∀ i, (⟨b, o, none⟩ : Addr).add i = ⟨b, o + i, none⟩ := fun i => by unfold Addr.add; split <;> simp_all
    rw [ha] at c0
    refine ⟨b, o, _, _, _, rfl, c0, ?_⟩
    have e : ((List.range len).map fun i => (p i).1)[j]?.getD [] = (p j).1 := by simp [hj]
    rw [e]; exact i0
open Go.ChangeShapes Go.WideShapes Go.ChangeAt Go.Deep in
set_option maxRecDepth 100000 in
theorem open_IntSS {H : Type} {enc : TypeId × Value → H} {W : World} {base : Nat} {v : Value} {d : DataW H} {p : List MemPlace} (hv : Value.okWide Try.prog W .any base 23 v)
    (h : DataW.Trod enc Try.prog W 0 (fun _ => true) true 23 v d p) : ∃ ao n cap L, v = .slice ao n cap ∧ IntSS W ao n cap L := by
  obtain ⟨a, len, cap, rfl⟩ := okWide_slice Try.underlying23 hv
  obtain ⟨fuel, hf⟩ := h
  exact IntSS.of_trod (by simpa [Value.cells] using hf)

/-- What the size of a slice of slices leaves. -/
def SzSS (left n tot r : Int) : Prop := 0 ≤ r → n ≤ left ∧ tot ≤ left ∧ r = left - n - tot

set_option maxRecDepth 100000 in
theorem szIntSS_any (w : World) (aa : Option Addr) (n ca : Nat) (left : Int) (L : List (List Int)) (ha : IntSS w aa n ca L) (h0 : 0 ≤ left) (h1 : left ≤ 1048576) :
    Calls Try.prog 7 #[.slice aa n ca, .int .i64 left] w fun e w' => ∃ r : Int, e = .returned (.int .i64 r) ∧ -1 ≤ r ∧ r ≤ left ∧ SzSS left n (totalSS L : Nat) r ∧ New w w' := by
  have HN := Lib.hid ha.1
  have hn := ha.2.2.1
  have HA := Lib.hid ha; clear ha
  by_cases h : left < n
  · go_enter Try.func7, Try.ntmps7
    go_wp2
    go_ret
    exact ⟨-1, rfl, by omega, by omega, fun h => absurd h (by omega), New.refl _⟩
  · go_enter Try.func7, Try.ntmps7
    go_wp2
    go_loopw [1, 5] (fun y i wr => ∃ k : Nat, k ≤ n ∧ i = .int .i64 k ∧ y = .int .i64 (left - n - (sumTo L k : Nat)) ∧ 0 ≤ left - n - (sumTo L k : Nat) ∧ New w wr) (fun _ i _ => n - (intOf i).toNat)
    case atStart => exact ⟨0, Nat.zero_le _, rfl, by rw [sumTo_zero]; simp, by rw [sumTo_zero]; omega, New.refl _⟩
    case round =>
      obtain ⟨k, hk, rfl, rfl, hl, hnw⟩ := hrel
      have NW := Lib.hid hnw; clear hnw
      by_cases hlt : k < n
      · obtain ⟨b, o, a, m, c, rfl, hc, hi⟩ := (HA.out.new NW.out).2.2.2.1 k hlt
        have SS := Lib.hid (sumTo_succ L k (by have := HN.out; omega))
        have HM := Lib.hid hi.1
        have hm := hi.2.2.1
        obtain ⟨q, hq⟩ : ∃ q : Int, q = left - n - (sumTo L k : Nat) := ⟨_, rfl⟩
        rw [← hq] at hl ⊢
        have HQ := Lib.hid hq; clear hq hi
        have hq2 : q ≤ 1048576 := by have := HQ.out; omega
        go_wp2_with fail
        refine (szIntS_any _ _ _ _ _ hm hl hq2).mono ?_
        rintro e w2 ⟨r, rfl, g1, g2, g3, rfl⟩
        have G3 := Lib.hid g3; clear g3
        by_cases hr : r < 0
        · go_wp2
          go_ret
          exact ⟨-1, rfl, by omega, by omega, fun h => absurd h (by omega), NW.out⟩
        · have hr2 : 0 ≤ r := by omega
          go_wp2
          go_roundw
          case rel =>
            have e1 := (G3.out hr2).2
            have e2 := HQ.out
            have e3 := SS.out
            have e4 := HM.out
            exact ⟨k + 1, by omega, by go_num, by rw [e3]; congr 1; push_cast; omega, by rw [e3]; push_cast; omega, NW.out⟩
          case measure => simp [intOf]; omega
      · obtain rfl : k = n := by omega
        go_wp2
        go_ret
        refine ⟨_, rfl, by omega, by omega, fun _ => ⟨by omega, ?_, ?_⟩, NW.out⟩
        · unfold totalSS; rw [← HN.out]; omega
        · unfold totalSS; rw [← HN.out]

theorem Try.infoRow : (Try.prog.info? 43).map (fun i => (i.zero, i.size, i.bytes)) = some (some (.slice none 0 0), 1, 24) := by kernel_rfl

/-- One row more, laid into a cell of the outer row. -/
theorem RowsSS.snoc {w1 : World} {B k n m c : Nat} {f : Nat → Value} {hd : Nat → Option Addr × Nat × Nat} {L : List (List Int)} {a : Option Addr} (h : RowsSS w1 B w1.heap.size B k n f hd L)
    (hk : k < n) {w3 : World} (n3 : New w1 w3) (o3 : Own w3 w1.heap.size w3.heap.size a m c (L[k]?.getD [])) :
    RowsSS (w3.setCell ⟨B, k, none⟩ (.slice a m c)) B (w3.setCell ⟨B, k, none⟩ (.slice a m c)).heap.size B (k + 1) n (fun j => if j = k then .slice a m c else f j) (fun j => if j = k then (a, m, c) else hd j) L := by
  have hB := h.row.lt
  have z3 := n3.size
  have hsz : (w3.setCell ⟨B, k, none⟩ (.slice a m c)).heap.size = w3.heap.size := by simp [World.setCell]
  have r3 : w3.rowIs B 43 n f := h.row.of_block (n3.block _ hB)
  have keep : ∀ b, b ≠ B → (w3.setCell ⟨B, k, none⟩ (.slice a m c)).heap[b]? = w3.heap[b]? := fun b hb => Below.heap_setCell _ _ _ _ hb
  refine ⟨Nat.le_refl _, by rw [hsz]; omega, r3.set k _, fun j hj => ?_, fun j hj => ?_, fun j hj hn => ?_, fun i j hi hj hij hni hnj => ?_⟩
  · by_cases e : j = k
    · simp [e]
    · simp only [e, if_false]; exact h.heads j (by omega)
  · rw [hsz]
    by_cases e : j = k
    · subst e
      simp only [if_true]
      refine (o3.turned fun b hn hb hlt => keep b fun e => ?_).mono (by omega) (Nat.le_refl _)
      have := (o3.bounds hn hb).1
      omega
    · simp only [e, if_false]
      have q := (h.own j (by omega)).new n3
      exact (q.turned fun b hn hb hlt => keep b fun e2 => h.outer j (by omega) hn (by rw [hb, e2])).mono (Nat.le_refl _) (by omega)
  · by_cases e : j = k
    · subst e
      simp only [if_true] at hn ⊢
      intro hb
      have := (o3.bounds hn hb).1
      omega
    · simp only [e, if_false] at hn ⊢
      exact h.outer j (by omega) hn
  · by_cases e1 : i = k
    · by_cases e2 : j = k
      · omega
      · subst e1
        simp only [if_true, e2, if_false] at hni hnj ⊢
        intro hb
        cases hq : blkOf a with
        | none => exact o3.has hni hq
        | some b =>
          have b1 := (o3.bounds hni hq).1
          rw [hq] at hb
          have b2 := (h.own j (by omega)).lt hnj hb.symm
          omega
    · by_cases e2 : j = k
      · subst e2
        simp only [if_true, e1, if_false] at hni hnj ⊢
        intro hb
        cases hq : blkOf a with
        | none => exact o3.has hnj hq
        | some b =>
          have b1 := (o3.bounds hnj hq).1
          rw [hq] at hb
          have b2 := (h.own i (by omega)).lt hni hb
          omega
      · simp only [e1, e2, if_false] at hni hnj ⊢
        exact h.apart i j (by omega) (by omega) hij hni hnj

set_option maxRecDepth 100000 in
theorem toIntSS_any (w : World) (aa : Option Addr) (n ca : Nat) (L : List (List Int)) (ha : IntSS w aa n ca L) (hn : n ≤ 1048576 ∧ totalSS L ≤ 1048576) :
    Calls Try.prog 10 #[.slice aa n ca] w fun e w' => ∃ ao cap, e = .returned (.slice ao n cap) ∧ OwnSS w' w.heap.size w'.heap.size ao n cap L ∧ New w w' := by
  have HN := Lib.hid ha.1
  have hm := ha.2.2.1
  have HA := Lib.hid ha; clear ha
  obtain ⟨hn1, hn2⟩ := hn
  have HT := Lib.hid hn2; clear hn2
  have hmk := run_make_row' (P := Try.prog) 23 43 (.slice none 0 0) 24 Try.underlying23 Try.infoRow rfl .i64 .i64 n (by omega) (by omega)
  go_enter Try.func10, Try.ntmps10
  go_wp2
  go_loopw [4] (fun i wr => ∃ (k : Nat) (f : Nat → Value) (hd : Nat → Option Addr × Nat × Nat), k ≤ n ∧ i = .int .i64 k ∧ RowsSS wr w.heap.size wr.heap.size w.heap.size k n f hd L ∧ New w wr) (fun i _ => n - (intOf i).toNat)
  case atStart => exact ⟨0, _, fun _ => (none, 0, 0), Nat.zero_le _, rfl, ⟨Nat.le_refl _, by simp, World.rowIs_made _ _ _ _, fun j hj => absurd hj (by omega), fun j hj => absurd hj (by omega), fun j hj => absurd hj (by omega), fun i j hi => absurd hi (by omega)⟩, (New.refl w).alloc _⟩
  case round =>
    obtain ⟨k, f, hd, hk, rfl, hrow, hnew⟩ := hrel
    have HR := Lib.hid hrow; clear hrow
    have NW := Lib.hid hnew; clear hnew
    by_cases hlt : k < n
    · obtain ⟨b, o, a, m, c, rfl, hc, hi⟩ := (HA.out.new NW.out).2.2.2.1 k hlt
      have hm2 : m ≤ 1048576 := by
        have e1 := hi.1
        have e2 := sumTo_succ L k (by have := HN.out; omega)
        have e3 := sumTo_le L (k + 1) (by have := HN.out; omega)
        have e4 := HT.out
        omega
      have HI := Lib.hid hi; clear hi hmk
      go_wp2_with fail
      refine (toIntS_any _ _ _ _ _ HI.out hm2).mono ?_
      rintro e w3 ⟨ra, rc, rfl, o3, n3⟩
      have O3 := Lib.hid o3; clear o3
      have N3 := Lib.hid n3; clear n3
      have hB := HR.out.row.lt
      have r3 : w3.rowIs w.heap.size 43 n f := HR.out.row.of_block (N3.out.block _ hB)
      have c0 : w3.cell? ⟨w.heap.size, k, none⟩ = some (f k) := r3.cell hlt
      have f0 := r3.frozen k
      clear r3
      obtain ⟨fv, hfv⟩ : ∃ fv, fv = f k := ⟨_, rfl⟩
      rw [← hfv] at c0
      clear hfv
      go_wp2
      go_roundw
      case rel => exact ⟨k + 1, _, _, by omega, by go_num, HR.out.snoc hlt N3.out O3.out, (NW.out.trans N3.out).setCell (Nat.le_refl _) _⟩
      case measure => simp [intOf]; omega
    · obtain rfl : k = n := by omega
      go_wp2
      go_ret
      exact ⟨_, _, rfl, ⟨HN.out, Nat.le_refl _, hm, .inr ⟨w.heap.size, f, hd, rfl, HR.out⟩⟩, NW.out⟩
end Go.Proofs.Ytlhpkpfnaepgbaa
