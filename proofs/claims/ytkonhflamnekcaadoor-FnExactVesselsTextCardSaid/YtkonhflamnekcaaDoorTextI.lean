/- The text of vessels, the program's. -/
import Derived.Test.YtkonhflamnekcaaDoorTextS
import Derived.Test.YtkonhflamnekcaaDoorImpl3
namespace Go.Proofs.YtkonhflamnekcaaDoor
open Go.RowKit

theorem join_snoc (P : List (List UInt8)) (y sep : List UInt8) (h : P ≠ []) : Lib.join (P ++ [y]) sep = Lib.join P sep ++ sep ++ y := by
  cases P with
  | nil => exact absurd rfl h
  | cons x r =>
    rw [List.cons_append, Lib.join_cons, Lib.join_cons]
    simp [Lib.joinTail]
theorem outT_join (S H : List Int) : ∀ n : Nat, Lib.join ((List.range n).map fun j => (pieceT S H j).data.toList) [44] = (outT S H n).data.toList
  | 0 => rfl
  | n + 1 => by
    rw [List.range_succ, List.map_append, List.map_singleton]
    by_cases h : n = 0
    · subst h
      rw [show List.map (fun j => (pieceT S H j).data.toList) (List.range 0) = [] from rfl, List.nil_append, Lib.join_one]
      simp [outT]
    · rw [join_snoc _ _ _ (by simp [h]), outT_join S H n]
      simp [outT, h]

theorem join_any (w : World) (b n : Nat) (S H : List Int) (f : Nat → Value) (hr : w.rowIs b 9 n f) (hf : ∀ j, j < n → f j = .string (pieceT S H j)) (hn : n ≤ 5) (hs : (outT S H n).size ≤ 6 * n) :
    Calls Tryd.prog 28 #[.slice (some ⟨b, 0, none⟩) n n, .string ⟨#[44]⟩] w fun e w' => e = .returned (.string (outT S H n)) ∧ New w w' := by
  have hm : ((List.range n).map (pieceT S H)).map (·.data.toList) = (List.range n).map fun j => (pieceT S H j).data.toList := by rw [List.map_map]; rfl
  have hj : Lib.join (((List.range n).map (pieceT S H)).map (·.data.toList)) (ByteArray.mk #[44]).data.toList = (outT S H n).data.toList := by rw [hm]; exact outT_join S H n
  have h := Tryd.strings_Join b 0 n ((List.range n).map (pieceT S H)) ⟨#[44]⟩ w
    (fun j x hx => by
      rw [List.getElem?_map] at hx
      have hj : j < n := by
        by_cases c : j < n
        · exact c
        · rw [List.getElem?_eq_none (by simp; omega)] at hx; cases hx
      rw [List.getElem?_range hj] at hx
      rw [Nat.zero_add, hr.cell hj, hf j hj]
      simpa using hx)
    hr.lt (by simp; omega) (by simp) (by
      rw [hj, Array.length_toList]
      show (outT S H n).size ≤ _
      omega)
  rw [hj, List.length_map, List.length_range] at h
  refine h.mono fun _ _ ⟨h1, h2⟩ => ⟨?_, h2⟩
  rw [h1]

theorem Tryd.infoStr : (Tryd.prog.info? 9).map (fun i => (i.zero, i.size, i.bytes)) = some (some (.string ⟨#[]⟩), 1, 16) := by kernel_rfl

/-- The text of vessels, and if there are any. -/
def textM (S H : List Int) : ByteArray := if goodB S H = true then outT S H S.length else ⟨#[]⟩

set_option maxRecDepth 100000 in
set_option maxHeartbeats 4000000 in
theorem iVesselsText_any (w : World) (aa ab : Option Addr) (n m ca cb : Nat) (S H : List Int) (h1 : Ints w aa n ca S) (h2 : Ints w ab m cb H) :
    Calls Tryd.prog 10 #[.agg #[.slice aa n ca, .slice ab m cb]] w fun e w' => e = .returned (.tuple #[.string (textM S H), .bool (goodB S H)]) ∧ New w w' := by
  have HA := Lib.hid h1; clear h1
  have HB := Lib.hid h2; clear h2
  by_cases hb : goodB S H = true
  · have hg := goodB_iff.1 hb
    have hn := HA.out.len
    have hm := HB.out.len
    have q5 : n ≤ 5 := by have := hg.1; omega
    have qm : m ≤ n ∧ n ≤ m := by have := hg.2.1; omega
    have HT := Lib.hid (show textM S H = outT S H n by unfold textM; rw [if_pos hb, hn])
    have HN := Lib.hid (And.intro hn hm); clear hn hm
    have HG := Lib.hid hg; clear hg
    have HB' := Lib.hid hb; clear hb
    have hmk := run_make_row' (P := Tryd.prog) 49 9 (.string ⟨#[]⟩) 16 Tryd.underlying49 Tryd.infoStr rfl .i64 .i64 n (by omega) (by omega)
    go_enter Tryd.func10, Tryd.ntmps10
    go_wp2_with fail
    refine (iAreVessels_any _ _ _ _ _ _ _ _ _ (HA.out.new (by repeat (first | with_reducible exact New.refl _ | with_reducible assumption | refine New.drewN ?_ _ | refine New.drew ?_ | refine New.alloc ?_ _ | refine New.setCell ?_ (by first | omega | (simp; omega) | (simp; done)) _ | (refine New.trans ?_ (by assumption))))) (HB.out.new (by repeat (first | with_reducible exact New.refl _ | with_reducible assumption | refine New.drewN ?_ _ | refine New.drew ?_ | refine New.alloc ?_ _ | refine New.setCell ?_ (by first | omega | (simp; omega) | (simp; done)) _ | (refine New.trans ?_ (by assumption)))))).mono ?_
    rw [HB'.out]
    rintro e w1 ⟨rfl, n1⟩
    have a0 : w1.cell? ⟨w.heap.size, 0, none⟩ = some (.slice aa n ca) := n1.cell (by simp [go_sem])
    have a1 : w1.cell? ⟨w.heap.size, 1, none⟩ = some (.slice ab m cb) := n1.cell (by simp [go_sem])
    have zr : w.heap.size < w1.heap.size := World.block_lt_of_cell? _ _ a0
    have N1 := Lib.hid (show New w w1 from New.trans (by repeat (first | with_reducible exact New.refl _ | with_reducible assumption | refine New.drewN ?_ _ | refine New.drew ?_ | refine New.alloc ?_ _ | refine New.setCell ?_ (by first | omega | (simp; omega) | (simp; done)) _ | (refine New.trans ?_ (by assumption)))) n1); clear n1
    obtain ⟨u1, rfl⟩ : ∃ u : World, u = w1 := ⟨_, rfl⟩
    have a0' : (u1.alloc (.cells (madeCells #[.string ⟨#[]⟩] n) 9)).cell? ⟨w.heap.size, 0, none⟩ = some (.slice aa n ca) := World.cell_kept a0
    go_wp2
    go_loopw [17] (fun i wr => ∃ (k : Nat) (f : Nat → Value), k ≤ n ∧ i = .int .i64 k ∧ wr.rowIs u1.heap.size 9 n f ∧ (∀ j, j < k → f j = .string (pieceT S H j)) ∧ (∀ j, ∃ z, f j = .string z) ∧ New u1 wr)
      (fun i _ => n - (intOf i).toNat)
    case atStart => exact ⟨0, _, Nat.zero_le _, rfl, World.rowIs_made _ _ _ _, fun j hj => absurd hj (by omega), fun _ => ⟨⟨#[]⟩, rfl⟩, (New.refl u1).alloc _⟩
    case round =>
      obtain ⟨k, f, hk, rfl, hrow, hf, hz, hnew⟩ := hrel
      have HR := Lib.hid hrow; clear hrow
      have HF := Lib.hid hf; clear hf
      have HZ := Lib.hid hz; clear hz
      have b1 : wr.cell? ⟨w.heap.size, 1, none⟩ = some (.slice ab m cb) := hnew.cell a1
      have NW := Lib.hid hnew; clear hnew
      by_cases hlt : k < n
      · obtain ⟨ba, oa, rfl, gc, _⟩ := (HA.out.new (N1.out.trans NW.out)).at hlt
        obtain ⟨bb, ob, rfl, gd, _⟩ := (HB.out.new (N1.out.trans NW.out)).at (show k < m by omega)
        obtain ⟨s, h, es, eh, c1, c2, c3⟩ := HG.out.nats (show k < S.length by have := HN.out.1; omega)
        have HP := Lib.hid (pieceT_eq es eh)
        rw [es] at gc
        rw [eh] at gd
        clear es eh
        have cs : s < 100 := by omega
        have ch : h < 100 := by omega
        have hs2 := numT_size cs
        have hh2 := numT_size ch
        obtain ⟨dh, hdh⟩ : ∃ d, d = numT h := ⟨_, rfl⟩
        obtain ⟨ds, hds⟩ : ∃ d, d = numT s := ⟨_, rfl⟩
        rw [← hdh, ← hds] at HP
        rw [← hdh] at hh2
        rw [← hds] at hs2
        have CH := Lib.hid (show ∀ w : World, Calls Tryd.prog 27 #[.int .i64 (h : Int)] w fun e w' => e = .returned (.string dh) ∧ New w w' from fun w => by rw [hdh]; exact itoa_num w h ch)
        have CS := Lib.hid (show ∀ w : World, Calls Tryd.prog 27 #[.int .i64 (s : Int)] w fun e w' => e = .returned (.string ds) ∧ New w w' from fun w => by rw [hds]; exact itoa_num w s cs)
        clear hdh hds
        have e1 : ¬ 9223372036854775807 < dh.size + 1 := by omega
        have e2 : ¬ 9223372036854775807 < dh.size + 1 + ds.size := by omega
        clear hh2 hs2 c1 c2 c3 cs ch
        go_wp2_with fail
        refine (CH.out _).mono ?_
        rintro e w2 ⟨rfl, n2⟩
        have N2 := Lib.hid n2; clear n2
        go_wp2_with fail
        refine (CS.out _).mono ?_
        rintro e w3 ⟨rfl, n3⟩
        have N3 := Lib.hid (N2.out.trans n3); clear n3
        obtain ⟨z, ez⟩ := HZ.out k
        have R3 := Lib.hid (HR.out.of_block (N3.out.block _ HR.out.lt))
        have hd : w3.cell? ⟨u1.heap.size, k, none⟩ = some (.string z) := by rw [R3.out.cell hlt, ez]
        have hfz := R3.out.frozen k
        clear ez
        go_wp2
        go_roundw
        case rel =>
          refine ⟨k + 1, _, by omega, by go_num, R3.out.set k _, fun j hj => ?_, fun j => ?_, (NW.out.trans N3.out).setCell (Nat.le_refl _) _⟩
          · by_cases e : j = k
            · subst e; simp [HP.out]
            · simp only [e, if_false]; exact HF.out j (by omega)
          · by_cases e : j = k
            · simp [e]
            · simp only [e, if_false]; exact HZ.out j
        case measure => simp [intOf]; omega
      · obtain rfl : k = n := by omega
        go_wp2_with fail
        refine (join_any _ _ _ S H f HR.out HF.out q5 (outT_size HG.out k (by have := HN.out.1; omega))).mono ?_
        rintro e w4 ⟨rfl, n4⟩
        go_wp2
        go_ret2
        refine ⟨?_, (N1.out.trans NW.out).trans n4⟩
        rw [HT.out, HB'.out]
        rfl
  · have hb' : goodB S H = false := by simpa using hb
    have HT := Lib.hid (show textM S H = ⟨#[]⟩ from if_neg hb)
    have HB' := Lib.hid hb'; clear hb hb'
    go_enter Tryd.func10, Tryd.ntmps10
    go_wp2_with fail
    refine (iAreVessels_any _ _ _ _ _ _ _ _ _ (HA.out.new (by repeat (first | with_reducible exact New.refl _ | with_reducible assumption | refine New.drewN ?_ _ | refine New.drew ?_ | refine New.alloc ?_ _ | refine New.setCell ?_ (by first | omega | (simp; omega) | (simp; done)) _ | (refine New.trans ?_ (by assumption))))) (HB.out.new (by repeat (first | with_reducible exact New.refl _ | with_reducible assumption | refine New.drewN ?_ _ | refine New.drew ?_ | refine New.alloc ?_ _ | refine New.setCell ?_ (by first | omega | (simp; omega) | (simp; done)) _ | (refine New.trans ?_ (by assumption)))))).mono ?_
    rw [HB'.out]
    rintro e w1 ⟨rfl, n1⟩
    go_wp2
    go_ret2
    refine ⟨?_, New.trans (by repeat (first | with_reducible exact New.refl _ | with_reducible assumption | refine New.drewN ?_ _ | refine New.drew ?_ | refine New.alloc ?_ _ | refine New.setCell ?_ (by first | omega | (simp; omega) | (simp; done)) _ | (refine New.trans ?_ (by assumption)))) n1⟩
    rw [HT.out, HB'.out]
    rfl

set_option maxRecDepth 100000 in
set_option maxHeartbeats 4000000 in
theorem sVesselsText_any (w : World) (aa ab : Option Addr) (n m ca cb : Nat) (S H : List Int) (h1 : Ints w aa n ca S) (h2 : Ints w ab m cb H) :
    Calls Tryd.prog 8 #[.agg #[.slice aa n ca, .slice ab m cb]] w fun e w' => e = .returned (.tuple #[.string (textM S H), .bool (goodB S H)]) ∧ New w w' := by
  have HA := Lib.hid h1; clear h1
  have HB := Lib.hid h2; clear h2
  by_cases hb : goodB S H = true
  · have hg := goodB_iff.1 hb
    have HT := Lib.hid (show textM S H = outT S H n by unfold textM; rw [if_pos hb, HA.out.len])
    have HG := Lib.hid hg; clear hg
    have HB' := Lib.hid hb; clear hb
    go_enter Tryd.func8, Tryd.ntmps8
    go_wp2_with fail
    refine (veGood_any _ _ _ _ _ _ _ _ _ (HA.out.new (by repeat (first | with_reducible exact New.refl _ | with_reducible assumption | refine New.drewN ?_ _ | refine New.drew ?_ | refine New.alloc ?_ _ | refine New.setCell ?_ (by first | omega | (simp; omega) | (simp; done)) _ | (refine New.trans ?_ (by assumption))))) (HB.out.new (by repeat (first | with_reducible exact New.refl _ | with_reducible assumption | refine New.drewN ?_ _ | refine New.drew ?_ | refine New.alloc ?_ _ | refine New.setCell ?_ (by first | omega | (simp; omega) | (simp; done)) _ | (refine New.trans ?_ (by assumption)))))).mono ?_
    rw [HB'.out]
    rintro e w1 ⟨rfl, n1⟩
    have a0 : w1.cell? ⟨w.heap.size, 0, none⟩ = some (.slice aa n ca) := n1.cell (by simp [go_sem])
    have a1 : w1.cell? ⟨w.heap.size, 1, none⟩ = some (.slice ab m cb) := n1.cell (by simp [go_sem])
    have N1 := Lib.hid (show New w w1 from New.trans (by repeat (first | with_reducible exact New.refl _ | with_reducible assumption | refine New.drewN ?_ _ | refine New.drew ?_ | refine New.alloc ?_ _ | refine New.setCell ?_ (by first | omega | (simp; omega) | (simp; done)) _ | (refine New.trans ?_ (by assumption)))) n1); clear n1
    go_wp2_with fail
    refine (veText_any _ _ _ _ _ _ _ S H (HA.out.new N1.out) (HB.out.new N1.out) HG.out).mono ?_
    rintro e w4 ⟨rfl, n4⟩
    go_wp2
    go_ret2
    refine ⟨?_, N1.out.trans n4⟩
    rw [HT.out, HB'.out]
    rfl
  · have hb' : goodB S H = false := by simpa using hb
    have HT := Lib.hid (show textM S H = ⟨#[]⟩ from if_neg hb)
    have HB' := Lib.hid hb'; clear hb hb'
    go_enter Tryd.func8, Tryd.ntmps8
    go_wp2_with fail
    refine (veGood_any _ _ _ _ _ _ _ _ _ (HA.out.new (by repeat (first | with_reducible exact New.refl _ | with_reducible assumption | refine New.drewN ?_ _ | refine New.drew ?_ | refine New.alloc ?_ _ | refine New.setCell ?_ (by first | omega | (simp; omega) | (simp; done)) _ | (refine New.trans ?_ (by assumption))))) (HB.out.new (by repeat (first | with_reducible exact New.refl _ | with_reducible assumption | refine New.drewN ?_ _ | refine New.drew ?_ | refine New.alloc ?_ _ | refine New.setCell ?_ (by first | omega | (simp; omega) | (simp; done)) _ | (refine New.trans ?_ (by assumption)))))).mono ?_
    rw [HB'.out]
    rintro e w1 ⟨rfl, n1⟩
    go_wp2
    go_ret2
    refine ⟨?_, New.trans (by repeat (first | with_reducible exact New.refl _ | with_reducible assumption | refine New.drewN ?_ _ | refine New.drew ?_ | refine New.alloc ?_ _ | refine New.setCell ?_ (by first | omega | (simp; omega) | (simp; done)) _ | (refine New.trans ?_ (by assumption)))) n1⟩
    rw [HT.out, HB'.out]
    rfl
end Go.Proofs.YtkonhflamnekcaaDoor
