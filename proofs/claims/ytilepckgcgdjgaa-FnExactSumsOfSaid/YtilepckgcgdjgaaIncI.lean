/- The different numbers of a list, increasing: the program's. -/
import Derived.Test.YtilepckgcgdjgaaShelf
import Derived.Test.YtilepckgcgdjgaaIncr
import Derived.Test.YtilepckgcgdjgaaGrid
import Derived.Sort.OwnSortedInts
import Derived.Lib.RowBridge
namespace Go.Proofs.Ytilepckgcgdjgaa
open Go.RowKit Go.Sort

theorem own_holds {w : World} {base g cap : Nat} {zs : List Int} (h : w.ownsRow base 3 1 (.slice (some ⟨g, 0, none⟩) zs.length cap) zs.length (zs.map (Value.int .i64))) :
    Holds (Value.int .i64) w g 0 zs.toArray ∧ zs.length ≤ cap ∧ cap ≤ maxLen ∧ base ≤ g ∧ g < w.heap.size := by
  rcases h.2 with ⟨h0, _⟩ | ⟨g', cap', cur, hv, hbase, hb, h1, h2, h3, h4⟩
  · cases h0
  cases hv
  refine ⟨holds_of_blockI hb (by simpa using h4), h1, h2, hbase, ?_⟩
  exact (Array.getElem?_eq_some_iff.1 hb).1

theorem own_put {w : World} {base g cap nn : Nat} {os : Array Obj} {zs ys : List Int} (hy : ys.length = zs.length) (h : w.ownsRow base 3 1 (.slice (some ⟨g, 0, none⟩) zs.length cap) zs.length (zs.map (Value.int .i64))) :
    (grow (putRow (Value.int .i64) (Sort.ahead w nn) g 0 ys.toArray) os).ownsRow base 3 1 (.slice (some ⟨g, 0, none⟩) ys.length cap) ys.length (ys.map (Value.int .i64)) ∧
    w.grownBy (grow (putRow (Value.int .i64) (Sort.ahead w nn) g 0 ys.toArray) os) (some g) := by
  rcases h.2 with ⟨h0, _⟩ | ⟨g', cap', cur, hv, hbase, hb, h1, h2, h3, h4⟩
  · cases h0
  cases hv
  have q := ownsRow_sortedI (n := nn) (os := os) (ts := ys) hy hbase hb h1 h2 h3
  rw [← hy] at q
  exact ⟨q, grownBy_sortedI _⟩

theorem own_cut {w : World} {base g cap k n : Nat} {ys : List Int} (h : w.ownsRow base 3 1 (.slice (some ⟨g, 0, none⟩) n cap) n (ys.map (Value.int .i64))) (hk : k ≤ n) :
    w.ownsRow base 3 1 (.slice (some ⟨g, 0, none⟩) k cap) k ((ys.take k).map (Value.int .i64)) := by
  have hl : ys.length = n := by simpa using h.1
  rcases h.2 with ⟨h0, _⟩ | ⟨g', cap', cur, hv, hbase, hb, h1, h2, h3, h4⟩
  · cases h0
  cases hv
  refine ⟨by simp; omega, .inr ⟨g, cap, cur, rfl, hbase, hb, by omega, h2, h3, ?_⟩⟩
  rw [List.map_take, ← h4, List.take_take]
  congr 1
  omega

theorem iIncreasing_any (w0 w : World) (base g cap n : Nat) (zs : List Int) (N : Nat) (L : List Nat) (hn : zs.length = n) (hs : n ≤ 1048576) (n0 : New w0 w) (hb : w0.heap.size ≤ base) (hL : ∀ x, x ∈ L → x < N) (hz : zs = L.map Int.ofNat)
    (how : w.ownsRow base 3 1 (.slice (some ⟨g, 0, none⟩) n cap) n (zs.map (Value.int .i64))) :
    Calls Try.prog 38 #[.slice (some ⟨g, 0, none⟩) n cap] w fun e w' => e = .returned (.slice (some ⟨g, 0, none⟩) (occur N L).length cap) ∧
      w'.ownsRow base 3 1 (.slice (some ⟨g, 0, none⟩) (occur N L).length cap) (occur N L).length (((occur N L).map Int.ofNat).map (Value.int .i64)) ∧ New w0 w' := by
  subst hn
  obtain ⟨hH, k1, k2, k3, k4⟩ := own_holds how
  have k5 : zs.length < 4611686018427387904 := by omega
  have CS := Lib.hid (compact_sorted hL hz)
  obtain ⟨ys, hy⟩ : ∃ ys, ys = zs.mergeSort fun x y => decide (x ≤ y) := ⟨_, rfl⟩
  have yl : ys.length = zs.length := by rw [hy]; exact List.length_mergeSort zs
  have sort := Try.slices_Sort_int g 0 cap zs w hH k4 k5
  rw [← hy] at sort
  have HOW := Lib.hid how
  have N0 := Lib.hid n0
  have HY := Lib.hid hy
  clear how n0 hH hy hz hL
  go_enter Try.func38, Try.ntmps38
  go_wp2_with fail
  refine sort.mono ?_
  rintro e w1 ⟨rfl, nn, os, hw1⟩
  obtain ⟨o1, g1⟩ := own_put (nn := nn) (os := os) yl HOW.out
  rw [← hw1] at o1 g1
  have N1 := Lib.hid (New.grown N0.out HOW.out hb g1)
  obtain ⟨hH2, _, _, _, _⟩ := own_holds o1
  have comp := Try.slices_Compact_int g 0 cap ys w1 hH2 (by omega) (by omega)
  rw [yl] at comp
  have O1 := Lib.hid o1
  clear hw1 o1 g1 hH2 sort
  go_wp2_with fail
  refine comp.mono ?_
  rintro e w2 ⟨rfl, q, hw2⟩
  have ec : Go.Lib.compact ys = (occur N L).map Int.ofNat := by
    have := CS.out
    rw [← HY.out] at this
    simpa [Lib.compact] using this
  rw [ec] at hw2 ⊢
  have le : (occur N L).length ≤ zs.length := by
    have := Lib.compact_length_le ys
    rw [ec] at this
    simp at this
    omega
  obtain ⟨o2, g2⟩ := own_put (nn := q) (os := #[]) (ys := (occur N L).map Int.ofNat ++ List.replicate (zs.length - ((occur N L).map Int.ofNat).length) 0) (by simp; omega) O1.out
  rw [grow_empty, ← hw2] at o2 g2
  have o3 := own_cut (k := (occur N L).length) o2 (by simp)
  have et : ((occur N L).map Int.ofNat ++ List.replicate (zs.length - ((occur N L).map Int.ofNat).length) (0 : Int)).take (occur N L).length = (occur N L).map Int.ofNat := by
    rw [List.take_append_of_le_length (by simp), List.take_of_length_le (by simp)]
  rw [et] at o3
  have N2 := Lib.hid (New.grown N1.out O1.out hb g2)
  have O3 := Lib.hid o3
  clear hw2 o2 g2 o3 comp ec et
  rw [List.length_map]
  go_wp2
  go_ret
  exact ⟨rfl, O3.out, N2.out⟩
end Go.Proofs.Ytilepckgcgdjgaa
