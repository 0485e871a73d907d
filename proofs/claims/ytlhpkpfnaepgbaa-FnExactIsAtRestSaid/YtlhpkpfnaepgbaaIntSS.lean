/- Slices of slices of integers: how they read, all their rows the call's own and apart, and the laws' helpers over them. -/
import Derived.Test.YtlhpkpfnaepgbaaAll
import Derived.Deep.RegionHeld3
namespace Go.Proofs.Ytlhpkpfnaepgbaa
open Go.RowKit

/-- How many numbers the first k rows have together. -/
def sumTo (L : List (List Int)) (k : Nat) : Nat := ((L.take k).map List.length).sum
def totalSS (L : List (List Int)) : Nat := sumTo L L.length
theorem sumTo_zero (L : List (List Int)) : sumTo L 0 = 0 := by simp [sumTo]
theorem sumTo_succ (L : List (List Int)) (k : Nat) (hk : k < L.length) : sumTo L (k + 1) = sumTo L k + (L[k]?.getD []).length := by
  have e : L.take (k + 1) = L.take k ++ [L[k]] := by rw [List.take_add_one, List.getElem?_eq_getElem hk]; rfl
  unfold sumTo
  rw [e, List.getElem?_eq_getElem hk, List.map_append, List.sum_append]
  simp
theorem sumTo_mono (L : List (List Int)) (i j : Nat) (h : i ≤ j) (hj : j ≤ L.length) : sumTo L i ≤ sumTo L j := by
  induction j with
  | zero => have : i = 0 := by omega
            subst this; exact Nat.le_refl _
  | succ j ih =>
    by_cases e : i = j + 1
    · subst e; exact Nat.le_refl _
    · have := ih (by omega) (by omega)
      rw [sumTo_succ L j (by omega)]
      omega
theorem sumTo_le (L : List (List Int)) (k : Nat) (hk : k ≤ L.length) : sumTo L k ≤ totalSS L := sumTo_mono L k L.length hk (Nat.le_refl _)

def IntSS (w : World) (ao : Option Addr) (n cap : Nat) (L : List (List Int)) : Prop :=
  n = L.length ∧ n ≤ cap ∧ n ≤ 9223372036854775807 ∧ (∀ j, j < n → ∃ b o a m c, ao = some ⟨b, o, none⟩ ∧ w.cell? ⟨b, o + j, none⟩ = some (.slice a m c) ∧ Ints w a m c (L[j]?.getD [])) ∧ (ao = none → cap = 0)
theorem IntSS.new {w w' : World} {ao : Option Addr} {n cap : Nat} {L : List (List Int)} (h : IntSS w ao n cap L) (k : New w w') : IntSS w' ao n cap L := by
  obtain ⟨h1, h2, h3, h4, h5⟩ := h
  refine ⟨h1, h2, h3, fun j hj => ?_, h5⟩
  obtain ⟨b, o, a, m, c, e, hc, hi⟩ := h4 j hj
  exact ⟨b, o, a, m, c, e, k.cell hc, hi.new k⟩
theorem IntSS.len {w : World} {ao : Option Addr} {n cap : Nat} {L : List (List Int)} (h : IntSS w ao n cap L) : n = L.length := h.1

/-- The rows of a slice of slices: the outer one in the block b, the inner ones as hd tells. -/
structure RowsSS (w : World) (lo hi : Nat) (b n cap : Nat) (f : Nat → Value) (hd : Nat → Option Addr × Nat × Nat) (L : List (List Int)) : Prop where
  lo_le : lo ≤ b
  lt_hi : b < hi
  row : w.rowIs b 43 cap f
  heads : ∀ j, j < n → f j = .slice (hd j).1 (hd j).2.1 (hd j).2.2
  own : ∀ j, j < n → Own w lo hi (hd j).1 (hd j).2.1 (hd j).2.2 (L[j]?.getD [])
  outer : ∀ j, j < n → (hd j).2.1 ≠ 0 → blkOf (hd j).1 ≠ some b
  apart : ∀ i j, i < n → j < n → i ≠ j → (hd i).2.1 ≠ 0 → (hd j).2.1 ≠ 0 → blkOf (hd i).1 ≠ blkOf (hd j).1
def OwnSS (w : World) (lo hi : Nat) (ao : Option Addr) (n cap : Nat) (L : List (List Int)) : Prop :=
  n = L.length ∧ n ≤ cap ∧ n ≤ 9223372036854775807 ∧ ((n = 0 ∧ (ao = none → cap = 0)) ∨ ∃ b f hd, ao = some ⟨b, 0, none⟩ ∧ RowsSS w lo hi b n cap f hd L)
theorem OwnSS.nil (w : World) (lo hi : Nat) : OwnSS w lo hi none 0 0 [] := ⟨rfl, Nat.le_refl _, by omega, .inl ⟨rfl, fun _ => rfl⟩⟩
theorem RowsSS.turned {w w' : World} {lo hi b n cap : Nat} {f : Nat → Value} {hd : Nat → Option Addr × Nat × Nat} {L : List (List Int)} (h : RowsSS w lo hi b n cap f hd L)
    (k : ∀ i, lo ≤ i → i < hi → i < w.heap.size → w'.heap[i]? = w.heap[i]?) : RowsSS w' lo hi b n cap f hd L :=
  { h with row := h.row.of_block (k b h.lo_le h.lt_hi h.row.lt), own := fun j hj => (h.own j hj).turned fun i hn hb hlt => k i ((h.own j hj).bounds hn hb).1 ((h.own j hj).bounds hn hb).2 hlt }
theorem OwnSS.turned {w w' : World} {lo hi : Nat} {ao : Option Addr} {n cap : Nat} {L : List (List Int)} (h : OwnSS w lo hi ao n cap L) (k : ∀ i, lo ≤ i → i < hi → i < w.heap.size → w'.heap[i]? = w.heap[i]?) : OwnSS w' lo hi ao n cap L := by
  obtain ⟨h1, h2, h3, h4⟩ := h
  refine ⟨h1, h2, h3, h4.imp id ?_⟩
  rintro ⟨b, f, hd, e, r⟩
  exact ⟨b, f, hd, e, r.turned k⟩
theorem OwnSS.new {w w' : World} {lo hi : Nat} {ao : Option Addr} {n cap : Nat} {L : List (List Int)} (h : OwnSS w lo hi ao n cap L) (k : New w w') : OwnSS w' lo hi ao n cap L :=
  h.turned fun i _ _ hi => k.block i hi
theorem OwnSS.chg {P : Nat → Prop} {w w' : World} {lo hi : Nat} {ao : Option Addr} {n cap : Nat} {L : List (List Int)} (h : OwnSS w lo hi ao n cap L) (k : Chg P w w') (hP : ∀ b, lo ≤ b → b < hi → ¬ P b) : OwnSS w' lo hi ao n cap L :=
  h.turned fun i h1 h2 hlt => k.block i hlt (hP i h1 h2)
theorem OwnSS.mono {w : World} {lo hi lo' hi' : Nat} {ao : Option Addr} {n cap : Nat} {L : List (List Int)} (h : OwnSS w lo hi ao n cap L) (h1 : lo' ≤ lo) (h2 : hi ≤ hi') : OwnSS w lo' hi' ao n cap L := by
  obtain ⟨a, b, c, d⟩ := h
  refine ⟨a, b, c, d.imp id ?_⟩
  rintro ⟨b, f, hd, e, r⟩
  exact ⟨b, f, hd, e, { r with lo_le := by have := r.lo_le; omega, lt_hi := by have := r.lt_hi; omega, own := fun j hj => (r.own j hj).mono h1 h2 }⟩
theorem OwnSS.setCell {w : World} {lo hi : Nat} {ao : Option Addr} {n cap : Nat} {L : List (List Int)} (h : OwnSS w lo hi ao n cap L) {p : Addr} (hp : p.block < lo ∨ hi ≤ p.block) (u : Value) : OwnSS (w.setCell p u) lo hi ao n cap L :=
  h.chg (Chg.setCell u) (fun b _ _ e => by omega)
theorem OwnSS.reads {w : World} {lo hi : Nat} {ao : Option Addr} {n cap : Nat} {L : List (List Int)} (h : OwnSS w lo hi ao n cap L) : IntSS w ao n cap L := by
  obtain ⟨h1, h2, h3, h4⟩ := h
  refine ⟨h1, h2, h3, fun j hj => ?_, fun e => ?_⟩
  · rcases h4 with h4 | ⟨b, f, hd, rfl, r⟩
    · omega
    · refine ⟨b, 0, _, _, _, rfl, ?_, (r.own j hj).ints⟩
      rw [Nat.zero_add, r.row.cell (by omega), r.heads j hj]
  · rcases h4 with h4 | ⟨b, f, hd, rfl, r⟩
    · exact h4.2 e
    · cases e

theorem eqIntSS_same (w : World) (aa ab : Option Addr) (n m ca cb : Nat) (la : List (List Int)) (ha : IntSS w aa n ca la) (hb : IntSS w ab m cb la) :
    Calls Try.prog 12 #[.slice aa n ca, .slice ab m cb] w fun e w' => e = .returned (.bool true) ∧ New w w' := by
  obtain rfl : n = m := ha.1.trans hb.1.symm
  have hma := ha.2.2.1
  have HA := Lib.hid ha; clear ha
  have HB := Lib.hid hb; clear hb
  go_enter Try.func12, Try.ntmps12
  go_wp2
  go_loopw [5] (fun i wr => ∃ k : Nat, k ≤ n ∧ i = .int .i64 k ∧ New w wr) (fun i _ => n - (intOf i).toNat)
  case atStart => exact ⟨0, Nat.zero_le _, rfl, New.refl _⟩
  case round =>
    obtain ⟨k, hk, rfl, hnw⟩ := hrel
    have NW := Lib.hid hnw; clear hnw
    by_cases hlt : k < n
    · obtain ⟨ba, oa, xa, na, ca', rfl, ga, ia⟩ := (HA.out.new NW.out).2.2.2.1 k hlt
      obtain ⟨bb, ob, xb, nb, cb', rfl, gb, ib⟩ := (HB.out.new NW.out).2.2.2.1 k hlt
      have IA := Lib.hid ia; clear ia
      have IB := Lib.hid ib; clear ib
      go_wp2
      go_region_held3 (fun w' => w'.cell? ⟨ba, oa + k, none⟩ = some (.slice xa na ca') ∧ w'.cell? ⟨bb, ob + k, none⟩ = some (.slice xb nb cb'))
        (first | exact ⟨ga, gb⟩ | exact ⟨n1.cell ga, n1.cell gb⟩ | fail)
        (first | (go_at_call 32; refine (eqIntS_same _ _ _ _ _ _ _ _ (IA.out.new (by repeat (first | with_reducible exact New.refl _ | with_reducible assumption | refine New.drewN ?_ _ | refine New.drew ?_ | refine New.alloc ?_ _ | refine New.setCell ?_ (by first | omega | (simp; omega) | (simp; done)) _ | (refine New.trans ?_ (by assumption))))) (IB.out.new (by repeat (first | with_reducible exact New.refl _ | with_reducible assumption | refine New.drewN ?_ _ | refine New.drew ?_ | refine New.alloc ?_ _ | refine New.setCell ?_ (by first | omega | (simp; omega) | (simp; done)) _ | (refine New.trans ?_ (by assumption)))))).mono ?_; rintro e w1 ⟨rfl, n1⟩))
      go_wp2
      go_roundw
      case rel => exact ⟨k + 1, by omega, by go_num, NW.out.trans (New.trans (by repeat (first | with_reducible exact New.refl _ | with_reducible assumption | refine New.drewN ?_ _ | refine New.drew ?_ | refine New.alloc ?_ _ | refine New.setCell ?_ (by first | omega | (simp; omega) | (simp; done)) _ | (refine New.trans ?_ (by assumption)))) n1)⟩
      case measure => simp [intOf]; omega
    · go_wp2
      go_ret
      exact ⟨rfl, NW.out⟩

def marksSS (x : Int) (L : List (List Int)) : List (List Int) := (List.range L.length).map (fun (j : Nat) => marks (x + (sumTo L j : Nat)) (L[j]?.getD []).length)
theorem marksSS_length (x : Int) (L : List (List Int)) : (marksSS x L).length = L.length := by simp [marksSS]
theorem marksSS_get (x : Int) (L : List (List Int)) (j : Nat) (h : j < L.length) : (marksSS x L)[j]?.getD [] = marks (x + (sumTo L j : Nat)) (L[j]?.getD []).length := by simp [marksSS, h]

theorem markIntSS_any (w : World) (lo hi : Nat) (ao : Option Addr) (n cap : Nat) (L : List (List Int)) (x : Int) (ha : OwnSS w lo hi ao n cap L) (h0 : 0 ≤ x) (h1 : x + (totalSS L : Nat) ≤ 4611686018427387904) :
    Calls Try.prog 15 #[.slice ao n cap, .int .i64 x] w fun e w' => e = .returned (.int .i64 (x + (totalSS L : Nat))) ∧ OwnSS w' lo hi ao n cap (marksSS x L) ∧ Chg (fun b => lo ≤ b ∧ b < hi) w w' := by
  have HA := Lib.hid ha; clear ha
  by_cases hn : n = 0
  · subst hn
    have hl : L = [] := List.eq_nil_of_length_eq_zero HA.out.1.symm
    have HL := Lib.hid hl; clear hl
    have ht : totalSS L = 0 := by rw [HL.out]; rfl
    rw [ht]
    clear ht h1
    go_enter Try.func15, Try.ntmps15
    go_wp2
    refine wp_loop_rounds 1 ?_
    rw [rounds_succ]
    go_wp2
    go_ret
    refine ⟨ret_int (by simp), ?_, Chg.refl _ _⟩
    obtain ⟨a, b, c, d⟩ := HA.out
    refine ⟨by rw [marksSS_length]; exact a, b, c, .inl ⟨rfl, ?_⟩⟩
    rcases d with d | ⟨b', f, hd, rfl, _⟩
    · exact d.2
    · exact fun e => by cases e
  · obtain ⟨hl, hc, hm, b, f, hd, rfl, r0⟩ : n = L.length ∧ n ≤ cap ∧ n ≤ 9223372036854775807 ∧ ∃ b f hd, ao = some ⟨b, 0, none⟩ ∧ RowsSS w lo hi b n cap f hd L := by
      obtain ⟨a, b, c, d⟩ := HA.out
      exact ⟨a, b, c, d.resolve_left (fun h => hn h.1)⟩
    have HL := Lib.hid hl; clear hl
    have R0 := Lib.hid r0; clear r0
    have TT := Lib.hid (show ∀ k, k ≤ n → sumTo L k ≤ totalSS L from fun k hk => sumTo_le L k (by have := HL.out; omega))
    have TE := Lib.hid (show sumTo L n = totalSS L by rw [HL.out]; rfl)
    go_enter Try.func15, Try.ntmps15
    go_wp2
    go_loopw [1, 5] (fun y i wr => ∃ k : Nat, k ≤ n ∧ i = .int .i64 k ∧ y = .int .i64 (x + (sumTo L k : Nat)) ∧ RowsSS wr lo hi b n cap f hd ((marksSS x L).take k ++ L.drop k) ∧ Chg (fun b => lo ≤ b ∧ b < hi) w wr) (fun _ i _ => n - (intOf i).toNat)
    case atStart => exact ⟨0, Nat.zero_le _, rfl, by rw [sumTo_zero]; simp, by simpa using R0.out, Chg.refl _ _⟩
    case round =>
      obtain ⟨k, hk, rfl, rfl, hrr, hch⟩ := hrel
      have RR := Lib.hid hrr; clear hrr
      have HC := Lib.hid hch; clear hch
      have t0 := TT.out k hk
      by_cases hlt : k < n
      · have e1 : ((marksSS x L).take k ++ L.drop k)[k]?.getD [] = L[k]?.getD [] := by
          rw [List.getElem?_append_right (by rw [List.length_take]; omega), List.length_take, marksSS_length, List.getElem?_drop]
          rw [show k + (k - min k L.length) = k by have := HL.out; omega]
        have E1 := Lib.hid e1; clear e1
        have hc0 : wr.cell? ⟨b, k, none⟩ = some (.slice (hd k).1 (hd k).2.1 (hd k).2.2) := by rw [RR.out.row.cell (by omega), RR.out.heads k hlt]
        have ok : Own wr lo hi (hd k).1 (hd k).2.1 (hd k).2.2 (L[k]?.getD []) := by rw [← E1.out]; exact RR.out.own k hlt
        have SS := Lib.hid (sumTo_succ L k (by have := HL.out; omega))
        have t1 := TT.out (k + 1) hlt
        have NN := Lib.hid (show (hd k).2.1 = (L[k]?.getD []).length from ok.1)
        have OK := Lib.hid ok; clear ok
        have t2 : (hd k).2.1 + sumTo L k ≤ totalSS L := by have := NN.out; have := SS.out; omega
        generalize hs : sumTo L k = s at *
        have HS := Lib.hid hs; clear hs t1
        go_wp2_with fail
        refine (markIntS_any _ lo hi _ _ _ (L[k]?.getD []) _ OK.out (by omega) (by omega)).mono ?_
        rintro e w2 ⟨rfl, m2, k2⟩
        have M2 := Lib.hid m2; clear m2
        have K2 := Lib.hid k2; clear k2
        go_wp2
        go_roundw
        case rel =>
          refine ⟨k + 1, by omega, by go_num, ?_, ?_, HC.out.trans (K2.out.mono fun i hi => OK.out.bounds hi.1 hi.2)⟩
          · rw [SS.out, ← NN.out]; exact congrArg (Value.int .i64) (by omega)
          · have hset : ∀ j, j < n → j ≠ k → ((marksSS x L).take (k + 1) ++ L.drop (k + 1))[j]?.getD [] = ((marksSS x L).take k ++ L.drop k)[j]?.getD [] := fun j hj hne => by
              have hLn := HL.out
              have hmn : (marksSS x L).length = n := by rw [marksSS_length]; exact hLn.symm
              by_cases hjk : j < k
              · rw [List.getElem?_append_left (by simp [hmn]; omega), List.getElem?_append_left (by simp [hmn]; omega), List.getElem?_take, List.getElem?_take, if_pos (by omega), if_pos hjk]
              · rw [List.getElem?_append_right (by simp [hmn]; omega), List.getElem?_append_right (by simp [hmn]; omega), List.length_take, List.length_take, List.getElem?_drop, List.getElem?_drop, hmn]
                rw [show k + 1 + (j - min (k + 1) n) = j by omega, show k + (j - min k n) = j by omega]
            have hat : ((marksSS x L).take (k + 1) ++ L.drop (k + 1))[k]?.getD [] = marks (x + (s : Nat)) (hd k).2.1 := by
              have hLn := HL.out
              rw [List.getElem?_append_left (by rw [List.length_take, marksSS_length]; omega), List.getElem?_take, if_pos (by omega), marksSS_get _ _ _ (by omega), HS.out, NN.out]
            have r1 := RR.out
            exact { r1 with
              row := r1.row.of_block (K2.out.block b r1.row.lt (fun h => r1.outer k hlt h.1 h.2))
              own := fun j hj => by
                by_cases e : j = k
                · subst e
                  rw [hat]; exact M2.out
                · rw [hset j hj e]
                  exact (r1.own j hj).turned fun i hn' hb hl => K2.out.block i hl (fun h => r1.apart j k hj hlt e hn' h.1 (hb.trans h.2.symm)) }
        case measure => simp [intOf]; omega
      · obtain rfl : k = n := by omega
        rw [TE.out]
        go_wp2
        go_ret
        have hlm : (marksSS x L).length = k := by rw [marksSS_length]; exact HL.out.symm
        have e2 : (marksSS x L).take k ++ L.drop k = marksSS x L := by rw [List.take_of_length_le (by omega), List.drop_eq_nil_of_le (by have := HL.out; omega), List.append_nil]
        refine ⟨rfl, ⟨hlm.symm, hc, hm, .inr ⟨b, f, hd, rfl, ?_⟩⟩, HC.out⟩
        rw [← e2]; exact RR.out

theorem heldIntSS_new (w : World) (ao : Option Addr) (n cap : Nat) (L : List (List Int)) (x : Int) (ha : IntSS w ao n cap (marksSS x L)) (h0 : 0 ≤ x) (h1 : x + (totalSS L : Nat) ≤ 4611686018427387904) :
    Calls Try.prog 16 #[.slice ao n cap, .int .i64 x] w fun e w' => e = .returned (.int .i64 (x + (totalSS L : Nat))) ∧ New w w' := by
  have HA := Lib.hid ha; clear ha
  have hm := HA.out.2.2.1
  have HL := Lib.hid (show n = L.length by rw [← marksSS_length x L]; exact HA.out.1)
  have TT := Lib.hid (show ∀ k, k ≤ n → sumTo L k ≤ totalSS L from fun k hk => sumTo_le L k (by have := HL.out; omega))
  have TE := Lib.hid (show sumTo L n = totalSS L by rw [HL.out]; rfl)
  go_enter Try.func16, Try.ntmps16
  go_wp2
  go_loopw [1, 5] (fun y i wr => ∃ k : Nat, k ≤ n ∧ i = .int .i64 k ∧ y = .int .i64 (x + (sumTo L k : Nat)) ∧ New w wr) (fun _ i _ => n - (intOf i).toNat)
  case atStart => exact ⟨0, Nat.zero_le _, rfl, by rw [sumTo_zero]; simp, New.refl _⟩
  case round =>
    obtain ⟨k, hk, rfl, rfl, hnw⟩ := hrel
    have NW := Lib.hid hnw; clear hnw
    have t0 := TT.out k hk
    by_cases hlt : k < n
    · obtain ⟨b, o, a, m, c, rfl, hc, hi⟩ := (HA.out.new NW.out).2.2.2.1 k hlt
      rw [marksSS_get _ _ _ (by have := HL.out; omega)] at hi
      have e1 : m = (L[k]?.getD []).length := by have := hi.1; rw [marks_length] at this; exact this
      have SS := Lib.hid (sumTo_succ L k (by have := HL.out; omega))
      have t1 := TT.out (k + 1) hlt
      have t2 : m + sumTo L k ≤ totalSS L := by have := SS.out; omega
      rw [← e1] at hi
      have E1 := Lib.hid e1; clear e1
      have HI := Lib.hid hi; clear hi
      generalize hs : sumTo L k = s at *
      have HS := Lib.hid hs; clear hs t1
      have e0 : ¬ x + (s : Int) + (m : Int) < 0 := by omega
      go_wp2_with fail
      refine (heldIntS_new _ _ _ _ _ HI.out (by omega) (by omega)).mono ?_
      rintro e w2 ⟨rfl, n2⟩
      have N2 := Lib.hid n2; clear n2
      go_wp2
      go_roundw
      case rel => exact ⟨k + 1, by omega, by go_num, by rw [SS.out, ← E1.out]; exact congrArg (Value.int .i64) (by omega), NW.out.trans N2.out⟩
      case measure => simp [intOf]; omega
    · obtain rfl : k = n := by omega
      rw [TE.out]
      go_wp2
      go_ret
      exact ⟨rfl, NW.out⟩
end Go.Proofs.Ytlhpkpfnaepgbaa
