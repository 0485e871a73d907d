/- The laws' helpers that copy and size slices of moves; what an argument of moves is. -/
import Derived.Test.YtkonhflamnekcaaMoves
import Derived.Test.YtkonhflamnekcaaOpen
import Derived.Deep.SlicePairs
namespace Go.Proofs.Ytkonhflamnekcaa
open Go.RowKit

theorem Try.infoMv : (Try.prog.info? 53).map (fun i => (i.zero, i.size, i.bytes)) = some (some (.agg #[.int .i64 0, .int .i64 0]), 2, 16) := by kernel_rfl
theorem run_make_pairs {n : Nat} (hn : n ≤ 1048576) (w : World) :
    (Instr.makeSlice 32 (.int .i64 (n : Int)) (.int .i64 (n : Int))).run Try.prog w = .ok (.slice (some ⟨w.heap.size, 0, none⟩) n n) (w.alloc (.cells (madeCells #[.int .i64 0, .int .i64 0] (n * 2)) 53)) := by
  obtain ⟨i, hi, hzz⟩ := Option.map_eq_some_iff.1 Try.infoMv
  simp only [Prod.mk.injEq] at hzz
  obtain ⟨hz, hs, hb⟩ := hzz
  have hr := run_make (P := Try.prog) w 32 53 i _ Try.underlying32 hi hz .i64 .i64 n n (by omega) (Int.le_refl _) (by rw [hb]; omega) (by omega)
  rw [hs] at hr
  simp only [Int.toNat_natCast] at hr
  exact hr
theorem rowIs_pairs (w : World) (n : Nat) (t : TypeId) : (w.alloc (.cells (madeCells #[.int .i64 0, .int .i64 0] (n * 2)) t)).rowIs w.heap.size t (n * 2) (fun _ => .int .i64 0) :=
  ⟨_, heap_alloc_new _ _, size_madeCells _ _, fun i hi => by
    have : i % 2 = 0 ∨ i % 2 = 1 := by omega
    rcases this with h | h <;> simp [madeCells, hi, h]⟩

theorem toMoveS_any (w : World) (aa : Option Addr) (n ca : Nat) (l : List (Int × Int)) (ha : Pairs w aa n ca l) (hn : n ≤ 1048576) :
    Calls Try.prog 15 #[.slice aa n ca] w fun e w' => ∃ ao cap, e = .returned (.slice ao n cap) ∧ OwnP w' w.heap.size w'.heap.size ao n cap l ∧ New w w' := by
  have HA := Lib.hid ha; clear ha
  have hmk := run_make_pairs hn
  go_enter Try.func15, Try.ntmps15
  go_wp2
  go_loopw [4] (fun i wr => ∃ (k : Nat) (f : Nat → Value), k ≤ n ∧ i = .int .i64 k ∧ wr.rowIs w.heap.size 53 (n * 2) f ∧ (∀ j, j < k → f (j * 2) = .int .i64 (l[j]?.getD (0, 0)).1 ∧ f (j * 2 + 1) = .int .i64 (l[j]?.getD (0, 0)).2) ∧ (∀ j, ∃ z, f j = .int .i64 z) ∧ New w wr)
    (fun i _ => n - (intOf i).toNat)
  case atStart => exact ⟨0, _, Nat.zero_le _, rfl, rowIs_pairs _ _ _, fun j hj => absurd hj (by omega), fun _ => ⟨0, rfl⟩, (New.refl w).alloc _⟩
  case round =>
    obtain ⟨k, f, hk, rfl, hrow, hf, hz, hnew⟩ := hrel
    have HR := Lib.hid hrow; clear hrow
    have HF := Lib.hid hf; clear hf
    have HZ := Lib.hid hz; clear hz
    have HN := Lib.hid hnew; clear hnew
    by_cases hlt : k < n
    · obtain ⟨b, o, rfl, hc, hd⟩ := (HA.out.new HN.out).2.2.2.1 k hlt
      clear hmk
      go_wp2_with fail
      refine (toMove_any _ _ _).mono ?_
      rintro e w2 ⟨rfl, n2⟩
      obtain ⟨z0, ez0⟩ := HZ.out (k * 2)
      obtain ⟨z1, ez1⟩ := HZ.out (k * 2 + 1)
      have hr2 : w2.rowIs w.heap.size 53 (n * 2) f := HR.out.of_block (n2.block _ HR.out.lt)
      have c0 : w2.cell? ⟨w.heap.size, k * 2, none⟩ = some (.int .i64 z0) := by rw [hr2.cell (by omega), ez0]
      have c1 : w2.cell? ⟨w.heap.size, k * 2 + 1, none⟩ = some (.int .i64 z1) := by rw [hr2.cell (by omega), ez1]
      have f0 := hr2.frozen (k * 2)
      have f1 := hr2.frozen (k * 2 + 1)
      have N2 := Lib.hid (HN.out.trans n2)
      have HR2 := Lib.hid hr2; clear hr2 ez0 ez1 n2 hc hd
      go_wp2
      go_roundw
      case rel =>
        refine ⟨k + 1, _, by omega, by go_num, (HR2.out.set (k * 2) _).set (k * 2 + 1) _, fun j hj => ?_, fun j => ?_, (N2.out.setCell (Nat.le_refl _) _).setCell (Nat.le_refl _) _⟩
        · by_cases e : j = k
          · subst e
            simp
          · rw [if_neg (by omega), if_neg (by omega), if_neg (by omega), if_neg (by omega)]
            exact HF.out j (by omega)
        · by_cases e : j = k * 2 + 1
          · simp [e]
          · rw [if_neg e]
            by_cases e2 : j = k * 2
            · simp [e2]
            · rw [if_neg e2]; exact HZ.out j
      case measure => simp [intOf]; omega
    · go_wp2
      go_ret
      obtain rfl : k = n := by omega
      refine ⟨_, _, rfl, ⟨HA.out.len, Nat.le_refl _, HA.out.2.2.1, .inr ⟨w.heap.size, f, rfl, Nat.le_refl _, HR.out.lt, HR.out, HF.out⟩⟩, HN.out⟩

theorem szMoveS_any (w : World) (aa : Option Addr) (n ca : Nat) (left : Int) (hn : n ≤ 9223372036854775807) (h0 : 0 ≤ left) (h1 : left ≤ 1048576) :
    Calls Try.prog 12 #[.slice aa n ca, .int .i64 left] w fun e w' => ∃ r : Int, e = .returned (.int .i64 r) ∧ -1 ≤ r ∧ r ≤ left ∧ SzOk left n r ∧ w = w' := by
  by_cases h : left < n
  · go_enter Try.func12, Try.ntmps12
    go_wp2
    go_ret
    exact ⟨-1, rfl, by omega, by omega, fun h => absurd h (by omega), rfl⟩
  · go_enter Try.func12, Try.ntmps12
    go_wp2
    go_ret
    exact ⟨left - n, rfl, by omega, by omega, fun _ => ⟨by omega, rfl⟩, rfl⟩

open Go.ChangeShapes Go.WideShapes Go.ChangeAt Go.Joins Go.Deep in
theorem Pairs.of_trod {H : Type} {enc : TypeId × Value → H} {W : World} {fuel : Nat} {v : Value} {x : DataW H × List MemPlace}
    (h : DataW.trod enc Try.prog W 0 (fun _ => true) true fuel 25 [v] = some x) : ∃ ao n cap l, v = .slice ao n cap ∧ Pairs W ao n cap l := by
  rcases open_slice_pairs Try.underlying25 Try.underlying50 (by kernel_rfl) rfl rfl (by kernel_rfl) (by kernel_rfl) h with ⟨hcs, _⟩ | ⟨a, len, cap, m, nn, V0, V1, D0, D1, P0, P1, hcs, _, hl, hm, hmm, _, hcell⟩
  · simp at hcs
    exact ⟨none, 0, 0, [], hcs, rfl, Nat.le_refl _, by omega, fun j hj => absurd hj (by omega), fun _ => rfl⟩
  · simp at hcs hmm
    have ints : ∀ i, i < len → ∃ p : Int × Int, V0 i = .int .i64 p.1 ∧ V1 i = .int .i64 p.2 := fun i hi => by
      obtain ⟨_, _, t0, t1⟩ := hcell i (by omega)
      obtain ⟨a0, e0, _, _⟩ := DataW.trod_int Try.underlying3 t0
      obtain ⟨a1, e1, _, _⟩ := DataW.trod_int Try.underlying3 t1
      simp at e0 e1
      exact ⟨(a0, a1), e0, e1⟩
    obtain ⟨p, hp⟩ := choose_lt ints
    refine ⟨some a, len, cap, (List.range len).map p, hcs, by simp, hl, by unfold maxLen at hm; omega, fun j hj => ?_, fun e => by cases e⟩
    obtain ⟨c0, c1, _, _⟩ := hcell j (by omega)
    obtain ⟨z0, _, _, _⟩ := hcell 0 (by omega)
    obtain ⟨b, o, spot⟩ := a
    have hs' : spot = none := by simpa [Addr.add] using World.cell?_spot z0
    subst hs'
    refine ⟨b, o, rfl, ?_, ?_⟩
    · have ha : (⟨b, o, none⟩ : Addr).add (j * 2) = ⟨b, o + j * 2, none⟩ := by unfold Addr.add; split <;> simp_all
      rw [ha] at c0
      rw [c0, (hp j hj).1]
      simp [hj]
    · have ha : (⟨b, o, none⟩ : Addr).add (j * 2 + 1) = ⟨b, o + j * 2 + 1, none⟩ := by unfold Addr.add; split <;> (simp_all; try omega)
      rw [ha] at c1
      rw [c1, (hp j hj).2]
      simp [hj]
open Go.ChangeShapes Go.WideShapes Go.ChangeAt Go.Joins Go.Deep in
set_option maxRecDepth 100000 in
theorem open_moves {H : Type} {enc : TypeId × Value → H} {W : World} {base : Nat} {v : Value} {d : DataW H} {p : List MemPlace} (hv : Value.okWide Try.prog W .any base 25 v)
    (h : DataW.Trod enc Try.prog W 0 (fun _ => true) true 25 v d p) : ∃ ao n cap l, v = .slice ao n cap ∧ Pairs W ao n cap l := by
  obtain ⟨a, len, cap, rfl⟩ := okWide_slice Try.underlying25 hv
  obtain ⟨fuel, hf⟩ := h
  exact Pairs.of_trod (by simpa [Value.cells] using hf)
end Go.Proofs.Ytkonhflamnekcaa
