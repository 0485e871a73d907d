/- StatesAlong, the model's and the program's. -/
import Derived.Test.YtkonhflamnekcaaVesS
import Derived.Test.YtkonhflamnekcaaTakenI
import Derived.Test.YtkonhflamnekcaaImpl2
namespace Go.Proofs.Ytkonhflamnekcaa
open Go.RowKit

def statesN (S H : List Int) (L : List (Int × Int)) : Nat := if movesB S H L = true then L.length + 1 else 0
theorem statesN_le (S H : List Int) (L : List (Int × Int)) : statesN S H L ≤ 1000 := by
  unfold statesN
  split
  · rename_i h; have := (movesB_iff.1 h).2.1; omega
  · omega

theorem ret_sb {ao : Option Addr} {n n' cap : Nat} {c c' : Bool} (h1 : n = n') (h2 : c = c') : Ending.returned (.tuple #[.slice ao n cap, .bool c]) = .returned (.tuple #[.slice ao n' cap, .bool c']) := by rw [h1, h2]

theorem sStatesAlong_any (w : World) (aa ab : Option Addr) (n m ca cb : Nat) (S H : List Int) (ma : Option Addr) (mn mc : Nat) (L : List (Int × Int)) (h1 : Ints w aa n ca S) (h2 : Ints w ab m cb H) (h3 : Pairs w ma mn mc L) :
    Calls Try.prog 22 #[.agg #[.slice aa n ca, .slice ab m cb], .slice ma mn mc] w fun e w' => ∃ ao cap, e = .returned (.tuple #[.slice ao (statesN S H L) cap, .bool (movesB S H L)]) ∧ VSide w' w.heap.size w'.heap.size ao (statesN S H L) (fun _ => S) (along S H L) ∧ New w w' := by
  have HA := Lib.hid h1; clear h1
  have HB := Lib.hid h2; clear h2
  have HM := Lib.hid h3; clear h3
  by_cases hb : movesB S H L = true
  · have hsn : statesN S H L = L.length + 1 := by simp [statesN, hb]
    have hs1 := statesN_le S H L
    have HSN := Lib.hid (And.intro hsn hs1); clear hsn hs1
    go_enter Try.func22, Try.ntmps22
    go_wp2_with fail
    refine (veMoves_any _ _ _ _ _ _ _ _ _ _ S H L (HA.out.new (by repeat (first | with_reducible exact New.refl _ | with_reducible assumption | refine New.drewN ?_ _ | refine New.drew ?_ | refine New.alloc ?_ _ | refine New.setCell ?_ (by first | omega | (simp; omega) | (simp; done)) _ | (refine New.trans ?_ (by assumption))))) (HB.out.new (by repeat (first | with_reducible exact New.refl _ | with_reducible assumption | refine New.drewN ?_ _ | refine New.drew ?_ | refine New.alloc ?_ _ | refine New.setCell ?_ (by first | omega | (simp; omega) | (simp; done)) _ | (refine New.trans ?_ (by assumption))))) (HM.out.new (by repeat (first | with_reducible exact New.refl _ | with_reducible assumption | refine New.drewN ?_ _ | refine New.drew ?_ | refine New.alloc ?_ _ | refine New.setCell ?_ (by first | omega | (simp; omega) | (simp; done)) _ | (refine New.trans ?_ (by assumption)))))).mono ?_
    rintro e w0 ⟨rfl, n0⟩
    have a0 : w0.cell? ⟨w.heap.size, 0, none⟩ = some (.slice aa n ca) := n0.cell (by simp [go_sem])
    have a1 : w0.cell? ⟨w.heap.size, 1, none⟩ = some (.slice ab m cb) := n0.cell (by simp [go_sem])
    have N0 := Lib.hid (show New w w0 from New.trans (by repeat (first | with_reducible exact New.refl _ | with_reducible assumption | refine New.drewN ?_ _ | refine New.drew ?_ | refine New.alloc ?_ _ | refine New.setCell ?_ (by first | omega | (simp; omega) | (simp; done)) _ | (refine New.trans ?_ (by assumption)))) n0); clear n0
    go_wp2_with fail
    refine (veAlong_any _ _ _ _ _ _ _ _ _ _ S H L (HA.out.new N0.out) (HB.out.new N0.out) (HM.out.new N0.out) hb).mono ?_
    rintro e w1 ⟨v, rfl, hv, n1⟩
    have z0 := N0.out.size
    have N1 := Lib.hid (N0.out.trans n1); clear n1 a0 a1
    obtain ⟨b, cap, rfl, hc, hl, hlt0, hcell⟩ := hv
    have HC := Lib.hid hcell; clear hcell
    go_wp2
    go_ret2
    refine ⟨some ⟨b, 0, none⟩, cap, ret_sb HSN.out.1.symm hb.symm, ⟨HSN.out.2, fun j hj => ?_⟩, N1.out⟩
    obtain ⟨p, q, c0, c1, sa, n', sc, sb, m', sd, rfl, rfl, o, _, _⟩ := HC.out j (by have := HSN.out.1; omega)
    exact ⟨b, sa, n', sc, sb, m', sd, rfl, by omega, hlt0, c0, c1, o.mono (by omega) (Nat.le_refl _)⟩
  · have hb' : movesB S H L = false := by simpa using hb
    have HSN := Lib.hid (show statesN S H L = 0 by simp [statesN, hb'])
    go_enter Try.func22, Try.ntmps22
    go_wp2_with fail
    refine (veMoves_any _ _ _ _ _ _ _ _ _ _ S H L (HA.out.new (by repeat (first | with_reducible exact New.refl _ | with_reducible assumption | refine New.drewN ?_ _ | refine New.drew ?_ | refine New.alloc ?_ _ | refine New.setCell ?_ (by first | omega | (simp; omega) | (simp; done)) _ | (refine New.trans ?_ (by assumption))))) (HB.out.new (by repeat (first | with_reducible exact New.refl _ | with_reducible assumption | refine New.drewN ?_ _ | refine New.drew ?_ | refine New.alloc ?_ _ | refine New.setCell ?_ (by first | omega | (simp; omega) | (simp; done)) _ | (refine New.trans ?_ (by assumption))))) (HM.out.new (by repeat (first | with_reducible exact New.refl _ | with_reducible assumption | refine New.drewN ?_ _ | refine New.drew ?_ | refine New.alloc ?_ _ | refine New.setCell ?_ (by first | omega | (simp; omega) | (simp; done)) _ | (refine New.trans ?_ (by assumption)))))).mono ?_
    rintro e w0 ⟨rfl, n0⟩
    go_wp2
    go_ret2
    exact ⟨none, 0, ret_sb HSN.out.symm hb'.symm, ⟨by rw [HSN.out]; omega, fun j hj => by rw [HSN.out] at hj; omega⟩, New.trans (by repeat (first | with_reducible exact New.refl _ | with_reducible assumption | refine New.drewN ?_ _ | refine New.drew ?_ | refine New.alloc ?_ _ | refine New.setCell ?_ (by first | omega | (simp; omega) | (simp; done)) _ | (refine New.trans ?_ (by assumption)))) n0⟩

theorem run_make_ves {n : Nat} (hn : n ≤ 1000) (w : World) :
    (Instr.makeSlice 39 (.int .i64 (n : Int)) (.int .i64 (n : Int))).run Try.prog w = .ok (.slice (some ⟨w.heap.size, 0, none⟩) n n) (w.alloc (.cells (madeCells #[.slice none 0 0, .slice none 0 0] (n * 2)) 28)) := by
  obtain ⟨i, hi, hzz⟩ := Option.map_eq_some_iff.1 Try.infoVes
  simp only [Prod.mk.injEq] at hzz
  obtain ⟨hz, hs, hb⟩ := hzz
  have hr := run_make (P := Try.prog) w 39 28 i _ Try.underlying39 hi hz .i64 .i64 n n (by omega) (Int.le_refl _) (by rw [hb]; omega) (by omega)
  rw [hs] at hr
  simp only [Int.toNat_natCast] at hr
  exact hr
theorem rowIs_ves (w : World) (n : Nat) (t : TypeId) : (w.alloc (.cells (madeCells #[.slice none 0 0, .slice none 0 0] (n * 2)) t)).rowIs w.heap.size t (n * 2) (fun _ => .slice none 0 0) :=
  ⟨_, heap_alloc_new _ _, size_madeCells _ _, fun i hi => by
    have : i % 2 = 0 ∨ i % 2 = 1 := by omega
    rcases this with h | h <;> simp [madeCells, hi, h]⟩
theorem range5 {w : World} {b n : Nat} {A : Nat → List Int} {k : Nat} (h : ∀ j, j < n → ∀ i, i < 5 → w.cell? ⟨b, j * 5 + i, none⟩ = some (.int .i64 ((A j)[i]?.getD 0))) (hk : k < n) : w.rangeAt b (k * 5) (cells5 (A k)) := by
  obtain ⟨c0, c1, c2, c3, c4⟩ := Fives.at h hk
  intro j v hv
  match j, hv with
  | 0, hv => simp at hv; subst hv; simpa using c0
  | 1, hv => simp at hv; subst hv; simpa using c1
  | 2, hv => simp at hv; subst hv; simpa using c2
  | 3, hv => simp at hv; subst hv; simpa using c3
  | 4, hv => simp at hv; subst hv; simpa using c4
  | k + 5, hv => simp at hv

set_option maxRecDepth 100000 in
set_option maxHeartbeats 8000000 in
theorem iStatesAlong_any (w : World) (aa ab : Option Addr) (n m ca cb : Nat) (S H : List Int) (ma : Option Addr) (mn mc : Nat) (L : List (Int × Int)) (h1 : Ints w aa n ca S) (h2 : Ints w ab m cb H) (h3 : Pairs w ma mn mc L) :
    Calls Try.prog 23 #[.agg #[.slice aa n ca, .slice ab m cb], .slice ma mn mc] w fun e w' => ∃ ao cap k Bd, e = .returned (.tuple #[.slice ao (statesN S H L) cap, .bool (movesB S H L)]) ∧ VOwn w' w.heap.size w'.heap.size ao (statesN S H L) k Bd (fun _ => S) (along S H L) ∧ New w w' := by
  have HA := Lib.hid h1; clear h1
  have HB := Lib.hid h2; clear h2
  have HM := Lib.hid h3; clear h3
  go_enter Try.func23, Try.ntmps23
  go_wp2_with fail
  refine (holdingsAlong_any _ _ _ _ _ _ _ _ _ _ S H L (HA.out.new (by repeat (first | with_reducible exact New.refl _ | with_reducible assumption | refine New.drewN ?_ _ | refine New.drew ?_ | refine New.alloc ?_ _ | refine New.setCell ?_ (by first | omega | (simp; omega) | (simp; done)) _ | (refine New.trans ?_ (by assumption))))) (HB.out.new (by repeat (first | with_reducible exact New.refl _ | with_reducible assumption | refine New.drewN ?_ _ | refine New.drew ?_ | refine New.alloc ?_ _ | refine New.setCell ?_ (by first | omega | (simp; omega) | (simp; done)) _ | (refine New.trans ?_ (by assumption))))) (HM.out.new (by repeat (first | with_reducible exact New.refl _ | with_reducible assumption | refine New.drewN ?_ _ | refine New.drew ?_ | refine New.alloc ?_ _ | refine New.setCell ?_ (by first | omega | (simp; omega) | (simp; done)) _ | (refine New.trans ?_ (by assumption)))))).mono ?_
  rintro e w1 ⟨n1, hr⟩
  have a0 : w1.cell? ⟨w.heap.size, 0, none⟩ = some (.slice aa n ca) := n1.cell (by simp [go_sem])
  have N1 := Lib.hid (show New w w1 from New.trans (by repeat (first | with_reducible exact New.refl _ | with_reducible assumption | refine New.drewN ?_ _ | refine New.drew ?_ | refine New.alloc ?_ _ | refine New.setCell ?_ (by first | omega | (simp; omega) | (simp; done)) _ | (refine New.trans ?_ (by assumption)))) n1); clear n1
  rcases hr with ⟨hb, v, rfl, hf⟩ | ⟨hb, rfl⟩
  · obtain ⟨hG, h100, hok⟩ := movesB_iff.1 hb
    have hn := HA.out.len
    have q5 : n ≤ 5 := by have := hG.1; omega
    have HG := Lib.hid hG; clear hG
    have HOK := Lib.hid hok; clear hok
    have hsn : statesN S H L = L.length + 1 := by simp [statesN, hb]
    obtain ⟨b, cap, rfl, hc, hl, hlt0, hcell⟩ := hf
    have HC := Lib.hid hcell; clear hcell
    have HSN := Lib.hid (And.intro hsn hb)
    obtain ⟨fn, hfn⟩ : ∃ fn, fn = L.length + 1 := ⟨_, rfl⟩
    rw [← hfn] at hc ⊢
    have hf1 : fn ≤ 1000 := by omega
    have HFN := Lib.hid hfn; clear hfn hsn h100 hn hb
    have hmk := run_make_ves hf1
    have A1 := Lib.hid a0
    have z1 : w.heap.size < w1.heap.size := World.block_lt_of_cell? _ _ a0
    go_wp2
    go_loopw [24] (fun i wr => ∃ (k : Nat) (f : Nat → Value) (Bd : Nat → Nat), k ≤ fn ∧ i = .int .i64 k ∧ New w1 wr ∧ wr.rowIs w1.heap.size 28 (fn * 2) f ∧ w1.heap.size < Bd 0 ∧ Bd k ≤ wr.heap.size ∧ (∀ j, j < k → Bd j ≤ Bd (j + 1)) ∧
      ∀ j, j < k → ∃ sa sc sb sd, f (j * 2) = .slice sa n sc ∧ f (j * 2 + 1) = .slice sb n sd ∧ OwnV wr (Bd j) (Bd (j + 1)) sa n sc sb n sd S (along S H L j)) (fun i _ => fn - (intOf i).toNat)
    case atStart => exact ⟨0, _, fun _ => w1.heap.size + 1, Nat.zero_le _, rfl, (New.refl _).alloc _, rowIs_ves _ _ _, Nat.lt_succ_self _, by simp, fun j hj => absurd hj (by omega), fun j hj => absurd hj (by omega)⟩
    case round =>
      obtain ⟨k, f, Bd, hk, rfl, hnw, hrow, hb0, hbk, hbm, hel⟩ := hrel
      have NW := Lib.hid hnw; clear hnw
      have HR := Lib.hid hrow; clear hrow
      have HBM := Lib.hid hbm; clear hbm
      have HEL := Lib.hid hel; clear hel
      clear hmk a0
      have zr := NW.out.size
      by_cases hlt : k < fn
      · have hgk := Lib.hid (along_good HG.out HOK.out k (by have := HFN.out; omega))
        have RG := Lib.hid (range5 (fun j hj i hi => NW.out.cell (HC.out j hj i hi)) (show k < L.length + 1 by have := HFN.out; omega))
        have r5 : Box5 (wr.alloc (.cells #[.int .i64 0, .int .i64 0, .int .i64 0, .int .i64 0, .int .i64 0] 72)) wr.heap.size [] := by
          have hr := Box5.made wr [] 72
          simpa using hr
        have R5 := Lib.hid r5; clear r5
        obtain ⟨W6, hW6⟩ : ∃ W6, W6 = (wr.alloc (.cells #[.int .i64 0, .int .i64 0, .int .i64 0, .int .i64 0, .int .i64 0] 72)).setCells wr.heap.size 0 (cells5 (along S H L k)) := ⟨_, rfl⟩
        have bx6 : Box5 W6 wr.heap.size (along S H L k) := by rw [hW6]; exact R5.out.fill _
        have n6 : New wr W6 := by rw [hW6]; exact Chg.new ((New.refl wr).alloc _) (Chg.setCells _ _ _ _) (fun i hi => by omega)
        have BX := Lib.hid bx6; clear bx6
        have N6 := Lib.hid n6; clear n6
        have H6 := Lib.hid hW6; clear hW6
        go_upto_region 8 with (first | (refine wpList_load_mid rfl 72 _ rfl b (k * 5) rfl (cells5 (along S H L k)) _ RG.out Try.underlying72 rfl (by kernel_rfl) ?_) | (refine wpList_store_mid rfl 72 _ _ rfl wr.heap.size 0 (cells5 (along S H L k)).toArray rfl rfl (R5.out.room _) (by kernel_rfl) (cells5_one _) ?_))
        rw [← H6.out]
        have a6 := N6.out.cell (NW.out.cell A1.out)
        have zq : w.heap.size < W6.heap.size := World.block_lt_of_cell? _ _ a6
        go_wp2_with (refine wpList_load_mid rfl 72 _ rfl wr.heap.size 0 rfl (cells5 (along S H L k)) _ BX.out.range Try.underlying72 rfl (by kernel_rfl) ?_)
        refine (vesselsWith_any _ _ _ _ S (along S H L k) (HA.out.new ((N1.out.trans NW.out).trans N6.out)) HG.out.1.1 HG.out.1.2 hgk.out.2.1).mono ?_
        rintro e w7 ⟨sa, sb, rfl, o7, n7⟩
        have N7 := Lib.hid (N6.out.trans n7)
        have z6 := N6.out.size
        have z7 := n7.size
        have OV := Lib.hid o7; clear o7 n7
        have r7 : w7.rowIs w1.heap.size 28 (fn * 2) f := HR.out.of_block (N7.out.block _ HR.out.lt)
        have c0 := r7.cell (show k * 2 < fn * 2 by omega)
        have c1 := r7.cell (show k * 2 + 1 < fn * 2 by omega)
        have f0 := r7.frozen (k * 2)
        have f1 := r7.frozen (k * 2 + 1)
        have R7 := Lib.hid r7; clear r7 a6
        go_wp2
        go_roundw
        case rel =>
          refine ⟨k + 1, _, fun j => if j ≤ k then Bd j else w7.heap.size, by omega, by go_num, ((NW.out.trans N7.out).setCell (Nat.le_refl _) _).setCell (Nat.le_refl _) _, (R7.out.set (k * 2) _).set (k * 2 + 1) _, by simpa using hb0, by simp [show ¬ k + 1 ≤ k by omega], fun j hj => ?_, fun j hj => ?_⟩
          · by_cases e : j = k
            · subst e; simp [show ¬ j + 1 ≤ j by omega]; omega
            · have := HBM.out j (by omega); simp [show j ≤ k by omega, show j + 1 ≤ k by omega]; exact this
          · by_cases e : j = k
            · subst e
              refine ⟨sa, n, sb, n, by simp, by simp, ?_⟩
              simp only [Nat.le_refl, if_true, show ¬ j + 1 ≤ j by omega, if_false]
              have hb1 := bd_mono HBM.out (Nat.zero_le j) (Nat.le_refl _)
              exact ((OV.out.mono (lo' := Bd j) (by omega) (Nat.le_refl _)).setCell (.inl (by simp; omega)) _).setCell (.inl (by simp; omega)) _
            · obtain ⟨pa, pc, pb, pd, e1, e2, o⟩ := HEL.out j (by omega)
              refine ⟨pa, pc, pb, pd, ?_, ?_, ?_⟩
              · rw [if_neg (by omega), if_neg (by omega)]; exact e1
              · rw [if_neg (by omega), if_neg (by omega)]; exact e2
              · simp only [show j ≤ k by omega, show j + 1 ≤ k by omega, if_true]
                have hb1 := bd_mono HBM.out (Nat.zero_le j) (by omega)
                exact ((o.new N7.out).setCell (.inl (by simp; omega)) _).setCell (.inl (by simp; omega)) _
        case measure => simp [intOf]; omega
      · obtain rfl : k = fn := by omega
        go_wp2
        go_ret2
        have e3 : statesN S H L = k := by rw [HSN.out.1, HFN.out]
        refine ⟨_, _, n, Bd, ret_sb e3.symm HSN.out.2.symm, ?_, N1.out.trans NW.out⟩
        rw [e3]
        refine ⟨hf1, q5, HBM.out, hbk, fun j hj => ?_⟩
        obtain ⟨sa, sc, sb, sd, e1, e2, o⟩ := HEL.out j hj
        exact ⟨_, sa, sc, sb, sd, rfl, by omega, hb0, by rw [HR.out.cell (by omega), e1], by rw [HR.out.cell (by omega), e2], o⟩
  · have HSN := Lib.hid (show statesN S H L = 0 by simp [statesN, hb])
    have HB0 := Lib.hid hb; clear hb
    go_wp2
    go_ret2
    exact ⟨none, 0, 0, fun _ => 0, ret_sb HSN.out.symm HB0.out.symm, ⟨by rw [HSN.out]; omega, by omega, fun j hj => by rw [HSN.out] at hj; omega, Nat.zero_le _, fun j hj => by rw [HSN.out] at hj; omega⟩, N1.out⟩
end Go.Proofs.Ytkonhflamnekcaa
