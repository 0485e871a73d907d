/- The program's flights: the state at first. -/
import Derived.Test.YtmhcnomkkjgidaaDoorClo
import Derived.Deep.RegionHeld3
import Derived.Deep.RegionLawGrows
import Derived.Deep.DeepCutAuto
import Derived.IntWalk
namespace Go.Proofs.YtmhcnomkkjgidaaDoor
open Go.RowKit

set_option maxRecDepth 100000 in
set_option maxHeartbeats 4000000 in
theorem iUnused_any (w : World) (aa ab : Option Addr) (n m ca cb : Nat) (L : List Int) (F : List Bool) (h1 : Ints w aa n ca L) (h2 : Bools w ab m cb F) (hf : fliB L F = true) :
    Calls Tryd.prog 63 #[.agg #[.slice aa n ca, .slice ab m cb]] w fun e w' => ∃ b1 c1 bf cf bc bn, e = .returned (.agg #[.slice (some ⟨b1, 0, none⟩) n c1, .slice (some ⟨bf, 0, none⟩) n cf, .slice (some ⟨bc, 0, none⟩) (n + 1) (n + 1), .slice (some ⟨bn, 0, none⟩) n n]) ∧
      LkRows w' w.heap.size b1 c1 bf cf bc (L.length + 1) bn L.length L (newK F L.length) ∧ New w w' := by
  obtain ⟨hl1, hl2, _⟩ := fliB_iff.1 hf
  have hn := h1.len
  obtain rfl : m = n := by have := h2.len; omega
  have h60 : 1 ≤ m := by omega
  have h61 : m ≤ 6 := by omega
  have HF := Lib.hid hl2
  rw [← hn]
  have HN := Lib.hid hn
  clear hf hl1 hl2 hn
  have HA := Lib.hid h1; clear h1
  have HB := Lib.hid h2; clear h2
  have hmk1 := run_make_row' (P := Tryd.prog) 23 3 (.int .i64 0) 8 Tryd.underlying23 Tryd.infoInt rfl .i64 .i64 (m + 1) (by omega) (by omega)
  have hmk0 := run_make_row' (P := Tryd.prog) 23 3 (.int .i64 0) 8 Tryd.underlying23 Tryd.infoInt rfl .i64 .i64 m (by omega) (by omega)
  simp only [madeCells_eq] at hmk1 hmk0
  rw [show ((m + 1 : Nat) : Int) = (m : Int) + 1 from by omega] at hmk1
  have hw1 : IntKind.i64.wrap ((m : Int) + 1) = (m : Int) + 1 := IntWalk.i64_in _ (by omega)
  go_enter Tryd.func63, Tryd.ntmps63
  go_upto_region 1 with fail
  obtain ⟨v0, hv0⟩ : ∃ xx : World, xx = (w.alloc (.cells #[.slice aa m ca, .slice ab m cb] 28)).alloc (.cells #[.slice none 0 0, .slice none 0 0, .slice none 0 0, .slice none 0 0] 52) := ⟨_, rfl⟩
  rw [← hv0]
  have N0 := Lib.hid (show New w v0 by rw [hv0]; exact (by repeat (first | with_reducible exact New.refl _ | with_reducible assumption | refine New.drewN ?_ _ | refine New.drew ?_ | refine New.alloc ?_ _ | refine New.setCell ?_ (by first | omega | (simp; omega) | (simp; done)) _ | (refine New.trans ?_ (by assumption)))))
  have b0_v0 : v0.cell? ⟨w.heap.size, 0, none⟩ = some (.slice aa m ca) := by rw [hv0]; simp [go_sem]
  have b1_v0 : v0.cell? ⟨w.heap.size, 1, none⟩ = some (.slice ab m cb) := by rw [hv0]; simp [go_sem]
  have RR : WB v0 (w.heap.size + 1) [.slice none 0 0, .slice none 0 0, .slice none 0 0, .slice none 0 0] 52 := by
    have := WB.alloc (w.alloc (.cells #[.slice aa m ca, .slice ab m cb] 28)) [.slice none 0 0, .slice none 0 0, .slice none 0 0, .slice none 0 0] 52
    rw [hv0]; simpa only [World.size_alloc] using this
  have zr0 := RR.lt
  clear hv0
  have M0 : New v0 v0.drew := (New.refl _).drew
  refine wp_region_held_drew (S := fun w' => w'.cell? ⟨w.heap.size, 0, none⟩ = some (.slice aa m ca) ∧ w'.cell? ⟨w.heap.size, 1, none⟩ = some (.slice ab m cb)) (by kernel_rfl) ⟨b0_v0, b1_v0⟩ (fun hHeld => ?_)
  obtain ⟨y0, hy0⟩ : ∃ y, y = v0.drew := ⟨_, rfl⟩
  rw [← hy0] at M0 hHeld  ⊢; clear hy0
  have sy0 := M0.size
  refine wpAnyH_take (i := 0) (oi := ⟨some 3, _, _, _, _, _⟩) (v := ?_) rfl (by kernel_rfl) (by kernel_rfl) (by kernel_rfl) (fun _ _ _ h => h) (Or.inl ⟨by rfl, ?_⟩) hHeld ?_; rotate_left; (· (intro w_ hSw; (try dsimp only at hSw); (try go_split_ands); go_simp; (try with_reducible rfl))); (try simp only [Act.put, List.setIfInBounds_toArray, List.set_cons_zero, List.set_cons_succ])
  refine wpAnyH_take (i := 1) (oi := ⟨some 4, _, _, _, _, _⟩) (v := ?_) rfl (by kernel_rfl) (by kernel_rfl) (by kernel_rfl) (fun _ _ _ h => h) (Or.inl ⟨by rfl, ?_⟩) hHeld ?_; rotate_left; (· (intro w_ hSw; (try dsimp only at hSw); (try go_split_ands); go_simp; (try with_reducible rfl))); (try simp only [Act.put, List.setIfInBounds_toArray, List.set_cons_zero, List.set_cons_succ])
  refine wpAnyH_take (i := 3) (oi := ⟨some 6, _, _, _, _, _⟩) (v := ?_) rfl (by kernel_rfl) (by kernel_rfl) (by kernel_rfl) (fun _ _ _ h => h) (Or.inl ⟨by rfl, ?_⟩) hHeld ?_; rotate_left; (· (intro w_ hSw; (try dsimp only at hSw); (try go_split_ands); go_simp; (try with_reducible rfl))); (try simp only [Act.put, List.setIfInBounds_toArray, List.set_cons_zero, List.set_cons_succ])
  refine wpAnyH_take (i := 4) (oi := ⟨some 7, _, _, _, _, _⟩) (v := ?_) rfl (by kernel_rfl) (by kernel_rfl) (by kernel_rfl) (fun _ _ _ h => h) (Or.inl ⟨by rfl, ?_⟩) hHeld ?_; rotate_left; (· (intro w_ hSw; (try dsimp only at hSw); (try go_split_ands); go_simp; (try with_reducible rfl))); (try simp only [Act.put, List.setIfInBounds_toArray, List.set_cons_zero, List.set_cons_succ])
  refine wpAnyH_take (i := 7) (oi := ⟨some 10, _, _, _, _, _⟩) (v := ?_) rfl (by kernel_rfl) (by kernel_rfl) (by kernel_rfl) (fun _ _ _ h => h) (Or.inl ⟨by rfl, ?_⟩) hHeld ?_; rotate_left; (· (intro w_ hSw; (try dsimp only at hSw); (try go_split_ands); go_simp; (try with_reducible rfl))); (try simp only [Act.put, List.setIfInBounds_toArray, List.set_cons_zero, List.set_cons_succ])
  refine wpAnyH_take (i := 8) (oi := ⟨some 11, _, _, _, _, _⟩) (v := ?_) rfl (by kernel_rfl) (by kernel_rfl) (by kernel_rfl) (fun _ _ _ h => h) (Or.inl ⟨by rfl, ?_⟩) hHeld ?_; rotate_left; (· (intro w_ hSw; (try dsimp only at hSw); (try go_split_ands); go_simp; (try with_reducible rfl))); (try simp only [Act.put, List.setIfInBounds_toArray, List.set_cons_zero, List.set_cons_succ])
  refine wpAnyH_take (i := 9) (oi := ⟨some 12, _, _, _, _, _⟩) (v := ?_) rfl (by kernel_rfl) (by kernel_rfl) (by kernel_rfl) (fun _ _ _ h => h) (Or.inl ⟨by rfl, ?_⟩) hHeld ?_; rotate_left; (· (intro w_ hSw; (try dsimp only at hSw); (try go_split_ands); go_simp; (try with_reducible rfl))); (try simp only [Act.put, List.setIfInBounds_toArray, List.set_cons_zero, List.set_cons_succ])
  refine wpAnyH_take (i := 10) (oi := ⟨some 13, _, _, _, _, _⟩) (v := ?_) rfl (by kernel_rfl) (by kernel_rfl) (by kernel_rfl) (fun _ _ _ h => h) (Or.inl ⟨by rfl, ?_⟩) hHeld ?_; rotate_left; (· (intro w_ hSw; (try dsimp only at hSw); (try go_split_ands); go_simp; (try with_reducible rfl))); (try simp only [Act.put, List.setIfInBounds_toArray, List.set_cons_zero, List.set_cons_succ])
  refine wpAnyH_take (i := 12) (oi := ⟨some 15, _, _, _, _, _⟩) (v := ?_) rfl (by kernel_rfl) (by kernel_rfl) (by kernel_rfl) (fun _ _ _ h => h) (Or.inl ⟨by rfl, ?_⟩) hHeld ?_; rotate_left; (· (intro w_ hSw; (try dsimp only at hSw); (try go_split_ands); go_simp; (try with_reducible rfl))); (try simp only [Act.put, List.setIfInBounds_toArray, List.set_cons_zero, List.set_cons_succ])
  refine wpAnyH_take (i := 13) (oi := ⟨some 16, _, _, _, _, _⟩) (v := ?_) rfl (by kernel_rfl) (by kernel_rfl) (by kernel_rfl) (fun _ _ _ h => h) (Or.inl ⟨by rfl, ?_⟩) hHeld ?_; rotate_left; (· (intro w_ hSw; (try dsimp only at hSw); (try go_split_ands); go_simp; (try with_reducible rfl))); (try simp only [Act.put, List.setIfInBounds_toArray, List.set_cons_zero, List.set_cons_succ])
  refine wpAnyH_take (i := 14) (oi := ⟨some 17, _, _, _, _, _⟩) (v := ?_) rfl (by kernel_rfl) (by kernel_rfl) (by kernel_rfl) (fun _ _ _ h => h) (Or.inl ⟨by rfl, ?_⟩) hHeld ?_; rotate_left; (· (intro w_ hSw; (try dsimp only at hSw); (try go_split_ands); go_simp; (try with_reducible rfl))); (try simp only [Act.put, List.setIfInBounds_toArray, List.set_cons_zero, List.set_cons_succ])
  refine wpAnyH_ready (rs := [2, 11, 15]) (by kernel_rfl) (by simp) ?_
  refine AllReadyH.cons (o := ⟨some 5, _, _, _, _, _⟩) rfl (fun K hK => ?_) ?_
  · skip
    go_simp
    refine (cloneI_any _ aa m ca L (HA.out.new (N0.out.trans M0)) (by omega) (by omega)).mono ?_
    rintro e y1 ⟨q1, c1, rfl, o0, n_⟩
    obtain ⟨b1, rfl, l1, l2, oa⟩ := o0.exact (by omega); clear o0
    refine hK.out _ _ ⟨n_.cell hHeld.1, n_.cell hHeld.2⟩ (fun hHeld => ?_)
    clear hK K
    (try simp only [Act.put, List.setIfInBounds_toArray, List.set_cons_zero, List.set_cons_succ])
    have sy1 := n_.size
    replace M0 := M0.trans n_; clear n_
    refine wpAnyH_ready (rs := [5, 11, 15]) (by kernel_rfl) (by simp) ?_
    refine AllReadyH.cons (o := ⟨some 8, _, _, _, _, _⟩) rfl (fun K hK => ?_) ?_
    · skip
      go_simp
      refine (cloneB_any _ ab m cb F (HB.out.new (N0.out.trans M0)) (by omega) (by omega)).mono ?_
      rintro e y2 ⟨q2, cf, rfl, o0, n_⟩
      obtain ⟨bf, rfl, l3, l4, ob⟩ := o0.exact (by omega); clear o0
      refine hK.out _ _ ⟨n_.cell hHeld.1, n_.cell hHeld.2⟩ (fun hHeld => ?_)
      clear hK K
      (try simp only [Act.put, List.setIfInBounds_toArray, List.set_cons_zero, List.set_cons_succ])
      replace oa := oa.new n_
      have sy2 := n_.size
      replace M0 := M0.trans n_; clear n_
      refine wpAnyH_take (i := 6) (oi := ⟨some 9, _, _, _, _, _⟩) (v := ?_) rfl (by kernel_rfl) (by kernel_rfl) (by kernel_rfl) (fun _ _ _ h => h) (Or.inl ⟨by rfl, ?_⟩) hHeld ?_; rotate_left; (· (intro w_ hSw; (try dsimp only at hSw); (try go_split_ands); go_simp; (try with_reducible rfl))); (try simp only [Act.put, List.setIfInBounds_toArray, List.set_cons_zero, List.set_cons_succ])
      refine wpAnyH_ready (rs := [11, 15]) (by kernel_rfl) (by simp) ?_
      refine AllReadyH.cons (o := ⟨some 14, _, _, _, _, _⟩) rfl (fun K hK => ?_) ?_
      · skip
        go_simp
        obtain ⟨y3, hz⟩ : ∃ z, z = y2.alloc (.cells (Array.replicate (m + 1) (Value.int .i64 0)) 3) := ⟨_, rfl⟩
        rw [← hz]
        have n_ : New y2 y3 := by rw [hz]; exact (New.refl _).alloc _
        obtain ⟨bc, hb_⟩ : ∃ z, z = y2.heap.size := ⟨_, rfl⟩
        rw [← hb_]
        have oc : Own y3 bc (bc + 1) (some ⟨bc, 0, none⟩) (m + 1) (m + 1) (List.replicate (m + 1) 0) := by rw [hb_, hz, ← List.toArray_replicate]; exact zeros_own _ _ (by omega)
        have pbc : y2.heap.size ≤ bc ∧ bc < y3.heap.size := by rw [hz, hb_]; simp
        clear hz hb_
        refine hK.out _ _ ⟨n_.cell hHeld.1, n_.cell hHeld.2⟩ (fun hHeld => ?_)
        clear hK K
        (try simp only [Act.put, List.setIfInBounds_toArray, List.set_cons_zero, List.set_cons_succ])
        replace oa := oa.new n_
        replace ob := ob.new n_
        have sy3 := n_.size
        replace M0 := M0.trans n_; clear n_
        refine wpAnyH_ready (rs := [15]) (by kernel_rfl) (by simp) ?_
        refine AllReadyH.cons (o := ⟨some 18, _, _, _, _, _⟩) rfl (fun K hK => ?_) AllReadyH.nil
        go_simp
        obtain ⟨y4, hz⟩ : ∃ z, z = y3.alloc (.cells (Array.replicate (m) (Value.int .i64 0)) 3) := ⟨_, rfl⟩
        rw [← hz]
        have n_ : New y3 y4 := by rw [hz]; exact (New.refl _).alloc _
        obtain ⟨bn, hb_⟩ : ∃ z, z = y3.heap.size := ⟨_, rfl⟩
        rw [← hb_]
        have on : Own y4 bn (bn + 1) (some ⟨bn, 0, none⟩) (m) (m) (List.replicate (m) 0) := by rw [hb_, hz, ← List.toArray_replicate]; exact zeros_own _ _ (by omega)
        have pbn : y3.heap.size ≤ bn ∧ bn < y4.heap.size := by rw [hz, hb_]; simp
        clear hz hb_
        refine hK.out _ _ ⟨n_.cell hHeld.1, n_.cell hHeld.2⟩ (fun hHeld => ?_)
        clear hK K
        (try simp only [Act.put, List.setIfInBounds_toArray, List.set_cons_zero, List.set_cons_succ])
        replace oa := oa.new n_
        replace ob := ob.new n_
        replace oc := oc.new n_
        have sy4 := n_.size
        replace M0 := M0.trans n_; clear n_
        refine wpAnyH_take (i := 16) (oi := ⟨some 19, _, _, _, _, _⟩) (v := ?_) rfl (by kernel_rfl) (by kernel_rfl) (by kernel_rfl) (fun _ _ _ h => h) (Or.inl ⟨by rfl, ?_⟩) hHeld ?_; rotate_left; (· (intro w_ hSw; (try dsimp only at hSw); (try go_split_ands); go_simp; (try with_reducible rfl))); (try simp only [Act.put, List.setIfInBounds_toArray, List.set_cons_zero, List.set_cons_succ])
        refine wpAnyH_ready (rs := [17]) (by kernel_rfl) (by simp) ?_
        refine AllReadyH.cons (o := ⟨none, _, _, _, _, _⟩) rfl (fun K hK => ?_) AllReadyH.nil
        have RM := RR.new M0; have x0 := RM.cell (k := 0) rfl; have f0 := RM.frozen 0; have x1 := RM.cell (k := 1) rfl; have f1 := RM.frozen 1; have x2 := RM.cell (k := 2) rfl; have f2 := RM.frozen 2; have x3 := RM.cell (k := 3) rfl; have f3 := RM.frozen 3
        go_simp
        refine hK.out _ _ ⟨World.cell_set (World.cell_set (World.cell_set (World.cell_set hHeld.1 (by simp)) (by simp)) (by simp)) (by simp), World.cell_set (World.cell_set (World.cell_set (World.cell_set hHeld.2 (by simp)) (by simp)) (by simp)) (by simp)⟩ (fun hHeld => ?_)
        clear hK K
        (try simp only [Act.put, List.setIfInBounds_toArray, List.set_cons_zero, List.set_cons_succ])
        refine wpAnyH_done (by kernel_rfl) ?_ _
        have k9 := (((((RR.new M0).set 0 (.slice (some ⟨b1, 0, none⟩) m c1)).set 1 (.slice (some ⟨bf, 0, none⟩) m cf)).set 2 (.slice (some ⟨bc, 0, none⟩) (m + 1) (m + 1))).set 3 (.slice (some ⟨bn, 0, none⟩) m m))
        have zM := (RR.new M0).lt
        have rows : LkRows y4 w.heap.size b1 c1 bf cf bc (m + 1) bn m L (newK F m) := ⟨by have := LkOk.newK F; rw [HF.out, ← HN.out] at this; rw [← HN.out]; exact this, by rw [← HN.out]; exact oa, by rw [← HN.out]; exact ob, by rw [← HN.out]; exact oc, by rw [← HN.out]; exact on, by omega, by omega, by omega⟩
        have rows4 := LkRows.setCell (LkRows.setCell (LkRows.setCell (LkRows.setCell (rows) (p := ⟨w.heap.size + 1, 0, none⟩) (by dsimp only; omega) (.slice (some ⟨b1, 0, none⟩) m c1)) (p := ⟨w.heap.size + 1, 1, none⟩) (by dsimp only; omega) (.slice (some ⟨bf, 0, none⟩) m cf)) (p := ⟨w.heap.size + 1, 2, none⟩) (by dsimp only; omega) (.slice (some ⟨bc, 0, none⟩) (m + 1) (m + 1))) (p := ⟨w.heap.size + 1, 3, none⟩) (by dsimp only; omega) (.slice (some ⟨bn, 0, none⟩) m m)
        go_wp2
        refine bodyPost_ret (v := .agg #[.slice (some ⟨b1, 0, none⟩) m c1, .slice (some ⟨bf, 0, none⟩) m cf, .slice (some ⟨bc, 0, none⟩) (m + 1) (m + 1), .slice (some ⟨bn, 0, none⟩) m m]) (by simp [results, Tryd.results63, go_sem, k9.cell (k := 0) rfl, k9.cell (k := 1) rfl, k9.cell (k := 2) rfl, k9.cell (k := 3) rfl]) rfl ⟨b1, c1, bf, cf, bc, bn, rfl, rows4, ?_⟩
        exact ((((N0.out.trans M0).setCell (by dsimp only; omega) _).setCell (by dsimp only; omega) _).setCell (by dsimp only; omega) _).setCell (by dsimp only; omega) _
      refine AllReadyH.cons (o := ⟨some 18, _, _, _, _, _⟩) rfl (fun K hK => ?_) AllReadyH.nil
      go_simp
      obtain ⟨y6, hz⟩ : ∃ z, z = y2.alloc (.cells (Array.replicate (m) (Value.int .i64 0)) 3) := ⟨_, rfl⟩
      rw [← hz]
      have n_ : New y2 y6 := by rw [hz]; exact (New.refl _).alloc _
      obtain ⟨bn, hb_⟩ : ∃ z, z = y2.heap.size := ⟨_, rfl⟩
      rw [← hb_]
      have on : Own y6 bn (bn + 1) (some ⟨bn, 0, none⟩) (m) (m) (List.replicate (m) 0) := by rw [hb_, hz, ← List.toArray_replicate]; exact zeros_own _ _ (by omega)
      have pbn : y2.heap.size ≤ bn ∧ bn < y6.heap.size := by rw [hz, hb_]; simp
      clear hz hb_
      refine hK.out _ _ ⟨n_.cell hHeld.1, n_.cell hHeld.2⟩ (fun hHeld => ?_)
      clear hK K
      (try simp only [Act.put, List.setIfInBounds_toArray, List.set_cons_zero, List.set_cons_succ])
      replace oa := oa.new n_
      replace ob := ob.new n_
      have sy6 := n_.size
      replace M0 := M0.trans n_; clear n_
      refine wpAnyH_ready (rs := [11]) (by kernel_rfl) (by simp) ?_
      refine AllReadyH.cons (o := ⟨some 14, _, _, _, _, _⟩) rfl (fun K hK => ?_) AllReadyH.nil
      go_simp
      obtain ⟨y7, hz⟩ : ∃ z, z = y6.alloc (.cells (Array.replicate (m + 1) (Value.int .i64 0)) 3) := ⟨_, rfl⟩
      rw [← hz]
      have n_ : New y6 y7 := by rw [hz]; exact (New.refl _).alloc _
      obtain ⟨bc, hb_⟩ : ∃ z, z = y6.heap.size := ⟨_, rfl⟩
      rw [← hb_]
      have oc : Own y7 bc (bc + 1) (some ⟨bc, 0, none⟩) (m + 1) (m + 1) (List.replicate (m + 1) 0) := by rw [hb_, hz, ← List.toArray_replicate]; exact zeros_own _ _ (by omega)
      have pbc : y6.heap.size ≤ bc ∧ bc < y7.heap.size := by rw [hz, hb_]; simp
      clear hz hb_
      refine hK.out _ _ ⟨n_.cell hHeld.1, n_.cell hHeld.2⟩ (fun hHeld => ?_)
      clear hK K
      (try simp only [Act.put, List.setIfInBounds_toArray, List.set_cons_zero, List.set_cons_succ])
      replace oa := oa.new n_
      replace ob := ob.new n_
      replace on := on.new n_
      have sy7 := n_.size
      replace M0 := M0.trans n_; clear n_
      refine wpAnyH_take (i := 16) (oi := ⟨some 19, _, _, _, _, _⟩) (v := ?_) rfl (by kernel_rfl) (by kernel_rfl) (by kernel_rfl) (fun _ _ _ h => h) (Or.inl ⟨by rfl, ?_⟩) hHeld ?_; rotate_left; (· (intro w_ hSw; (try dsimp only at hSw); (try go_split_ands); go_simp; (try with_reducible rfl))); (try simp only [Act.put, List.setIfInBounds_toArray, List.set_cons_zero, List.set_cons_succ])
      refine wpAnyH_ready (rs := [17]) (by kernel_rfl) (by simp) ?_
      refine AllReadyH.cons (o := ⟨none, _, _, _, _, _⟩) rfl (fun K hK => ?_) AllReadyH.nil
      have RM := RR.new M0; have x0 := RM.cell (k := 0) rfl; have f0 := RM.frozen 0; have x1 := RM.cell (k := 1) rfl; have f1 := RM.frozen 1; have x2 := RM.cell (k := 2) rfl; have f2 := RM.frozen 2; have x3 := RM.cell (k := 3) rfl; have f3 := RM.frozen 3
      go_simp
      refine hK.out _ _ ⟨World.cell_set (World.cell_set (World.cell_set (World.cell_set hHeld.1 (by simp)) (by simp)) (by simp)) (by simp), World.cell_set (World.cell_set (World.cell_set (World.cell_set hHeld.2 (by simp)) (by simp)) (by simp)) (by simp)⟩ (fun hHeld => ?_)
      clear hK K
      (try simp only [Act.put, List.setIfInBounds_toArray, List.set_cons_zero, List.set_cons_succ])
      refine wpAnyH_done (by kernel_rfl) ?_ _
      have k9 := (((((RR.new M0).set 0 (.slice (some ⟨b1, 0, none⟩) m c1)).set 1 (.slice (some ⟨bf, 0, none⟩) m cf)).set 2 (.slice (some ⟨bc, 0, none⟩) (m + 1) (m + 1))).set 3 (.slice (some ⟨bn, 0, none⟩) m m))
      have zM := (RR.new M0).lt
      have rows : LkRows y7 w.heap.size b1 c1 bf cf bc (m + 1) bn m L (newK F m) := ⟨by have := LkOk.newK F; rw [HF.out, ← HN.out] at this; rw [← HN.out]; exact this, by rw [← HN.out]; exact oa, by rw [← HN.out]; exact ob, by rw [← HN.out]; exact oc, by rw [← HN.out]; exact on, by omega, by omega, by omega⟩
      have rows4 := LkRows.setCell (LkRows.setCell (LkRows.setCell (LkRows.setCell (rows) (p := ⟨w.heap.size + 1, 0, none⟩) (by dsimp only; omega) (.slice (some ⟨b1, 0, none⟩) m c1)) (p := ⟨w.heap.size + 1, 1, none⟩) (by dsimp only; omega) (.slice (some ⟨bf, 0, none⟩) m cf)) (p := ⟨w.heap.size + 1, 2, none⟩) (by dsimp only; omega) (.slice (some ⟨bc, 0, none⟩) (m + 1) (m + 1))) (p := ⟨w.heap.size + 1, 3, none⟩) (by dsimp only; omega) (.slice (some ⟨bn, 0, none⟩) m m)
      go_wp2
      refine bodyPost_ret (v := .agg #[.slice (some ⟨b1, 0, none⟩) m c1, .slice (some ⟨bf, 0, none⟩) m cf, .slice (some ⟨bc, 0, none⟩) (m + 1) (m + 1), .slice (some ⟨bn, 0, none⟩) m m]) (by simp [results, Tryd.results63, go_sem, k9.cell (k := 0) rfl, k9.cell (k := 1) rfl, k9.cell (k := 2) rfl, k9.cell (k := 3) rfl]) rfl ⟨b1, c1, bf, cf, bc, bn, rfl, rows4, ?_⟩
      exact ((((N0.out.trans M0).setCell (by dsimp only; omega) _).setCell (by dsimp only; omega) _).setCell (by dsimp only; omega) _).setCell (by dsimp only; omega) _
    refine AllReadyH.cons (o := ⟨some 14, _, _, _, _, _⟩) rfl (fun K hK => ?_) ?_
    · skip
      go_simp
      obtain ⟨y9, hz⟩ : ∃ z, z = y1.alloc (.cells (Array.replicate (m + 1) (Value.int .i64 0)) 3) := ⟨_, rfl⟩
      rw [← hz]
      have n_ : New y1 y9 := by rw [hz]; exact (New.refl _).alloc _
      obtain ⟨bc, hb_⟩ : ∃ z, z = y1.heap.size := ⟨_, rfl⟩
      rw [← hb_]
      have oc : Own y9 bc (bc + 1) (some ⟨bc, 0, none⟩) (m + 1) (m + 1) (List.replicate (m + 1) 0) := by rw [hb_, hz, ← List.toArray_replicate]; exact zeros_own _ _ (by omega)
      have pbc : y1.heap.size ≤ bc ∧ bc < y9.heap.size := by rw [hz, hb_]; simp
      clear hz hb_
      refine hK.out _ _ ⟨n_.cell hHeld.1, n_.cell hHeld.2⟩ (fun hHeld => ?_)
      clear hK K
      (try simp only [Act.put, List.setIfInBounds_toArray, List.set_cons_zero, List.set_cons_succ])
      replace oa := oa.new n_
      have sy9 := n_.size
      replace M0 := M0.trans n_; clear n_
      refine wpAnyH_ready (rs := [5, 15]) (by kernel_rfl) (by simp) ?_
      refine AllReadyH.cons (o := ⟨some 8, _, _, _, _, _⟩) rfl (fun K hK => ?_) ?_
      · skip
        go_simp
        refine (cloneB_any _ ab m cb F (HB.out.new (N0.out.trans M0)) (by omega) (by omega)).mono ?_
        rintro e y10 ⟨q2, cf, rfl, o0, n_⟩
        obtain ⟨bf, rfl, l3, l4, ob⟩ := o0.exact (by omega); clear o0
        refine hK.out _ _ ⟨n_.cell hHeld.1, n_.cell hHeld.2⟩ (fun hHeld => ?_)
        clear hK K
        (try simp only [Act.put, List.setIfInBounds_toArray, List.set_cons_zero, List.set_cons_succ])
        replace oa := oa.new n_
        replace oc := oc.new n_
        have sy10 := n_.size
        replace M0 := M0.trans n_; clear n_
        refine wpAnyH_take (i := 6) (oi := ⟨some 9, _, _, _, _, _⟩) (v := ?_) rfl (by kernel_rfl) (by kernel_rfl) (by kernel_rfl) (fun _ _ _ h => h) (Or.inl ⟨by rfl, ?_⟩) hHeld ?_; rotate_left; (· (intro w_ hSw; (try dsimp only at hSw); (try go_split_ands); go_simp; (try with_reducible rfl))); (try simp only [Act.put, List.setIfInBounds_toArray, List.set_cons_zero, List.set_cons_succ])
        refine wpAnyH_ready (rs := [15]) (by kernel_rfl) (by simp) ?_
        refine AllReadyH.cons (o := ⟨some 18, _, _, _, _, _⟩) rfl (fun K hK => ?_) AllReadyH.nil
        go_simp
        obtain ⟨y11, hz⟩ : ∃ z, z = y10.alloc (.cells (Array.replicate (m) (Value.int .i64 0)) 3) := ⟨_, rfl⟩
        rw [← hz]
        have n_ : New y10 y11 := by rw [hz]; exact (New.refl _).alloc _
        obtain ⟨bn, hb_⟩ : ∃ z, z = y10.heap.size := ⟨_, rfl⟩
        rw [← hb_]
        have on : Own y11 bn (bn + 1) (some ⟨bn, 0, none⟩) (m) (m) (List.replicate (m) 0) := by rw [hb_, hz, ← List.toArray_replicate]; exact zeros_own _ _ (by omega)
        have pbn : y10.heap.size ≤ bn ∧ bn < y11.heap.size := by rw [hz, hb_]; simp
        clear hz hb_
        refine hK.out _ _ ⟨n_.cell hHeld.1, n_.cell hHeld.2⟩ (fun hHeld => ?_)
        clear hK K
        (try simp only [Act.put, List.setIfInBounds_toArray, List.set_cons_zero, List.set_cons_succ])
        replace oa := oa.new n_
        replace oc := oc.new n_
        replace ob := ob.new n_
        have sy11 := n_.size
        replace M0 := M0.trans n_; clear n_
        refine wpAnyH_take (i := 16) (oi := ⟨some 19, _, _, _, _, _⟩) (v := ?_) rfl (by kernel_rfl) (by kernel_rfl) (by kernel_rfl) (fun _ _ _ h => h) (Or.inl ⟨by rfl, ?_⟩) hHeld ?_; rotate_left; (· (intro w_ hSw; (try dsimp only at hSw); (try go_split_ands); go_simp; (try with_reducible rfl))); (try simp only [Act.put, List.setIfInBounds_toArray, List.set_cons_zero, List.set_cons_succ])
        refine wpAnyH_ready (rs := [17]) (by kernel_rfl) (by simp) ?_
        refine AllReadyH.cons (o := ⟨none, _, _, _, _, _⟩) rfl (fun K hK => ?_) AllReadyH.nil
        have RM := RR.new M0; have x0 := RM.cell (k := 0) rfl; have f0 := RM.frozen 0; have x1 := RM.cell (k := 1) rfl; have f1 := RM.frozen 1; have x2 := RM.cell (k := 2) rfl; have f2 := RM.frozen 2; have x3 := RM.cell (k := 3) rfl; have f3 := RM.frozen 3
        go_simp
        refine hK.out _ _ ⟨World.cell_set (World.cell_set (World.cell_set (World.cell_set hHeld.1 (by simp)) (by simp)) (by simp)) (by simp), World.cell_set (World.cell_set (World.cell_set (World.cell_set hHeld.2 (by simp)) (by simp)) (by simp)) (by simp)⟩ (fun hHeld => ?_)
        clear hK K
        (try simp only [Act.put, List.setIfInBounds_toArray, List.set_cons_zero, List.set_cons_succ])
        refine wpAnyH_done (by kernel_rfl) ?_ _
        have k9 := (((((RR.new M0).set 0 (.slice (some ⟨b1, 0, none⟩) m c1)).set 1 (.slice (some ⟨bf, 0, none⟩) m cf)).set 2 (.slice (some ⟨bc, 0, none⟩) (m + 1) (m + 1))).set 3 (.slice (some ⟨bn, 0, none⟩) m m))
        have zM := (RR.new M0).lt
        have rows : LkRows y11 w.heap.size b1 c1 bf cf bc (m + 1) bn m L (newK F m) := ⟨by have := LkOk.newK F; rw [HF.out, ← HN.out] at this; rw [← HN.out]; exact this, by rw [← HN.out]; exact oa, by rw [← HN.out]; exact ob, by rw [← HN.out]; exact oc, by rw [← HN.out]; exact on, by omega, by omega, by omega⟩
        have rows4 := LkRows.setCell (LkRows.setCell (LkRows.setCell (LkRows.setCell (rows) (p := ⟨w.heap.size + 1, 0, none⟩) (by dsimp only; omega) (.slice (some ⟨b1, 0, none⟩) m c1)) (p := ⟨w.heap.size + 1, 1, none⟩) (by dsimp only; omega) (.slice (some ⟨bf, 0, none⟩) m cf)) (p := ⟨w.heap.size + 1, 2, none⟩) (by dsimp only; omega) (.slice (some ⟨bc, 0, none⟩) (m + 1) (m + 1))) (p := ⟨w.heap.size + 1, 3, none⟩) (by dsimp only; omega) (.slice (some ⟨bn, 0, none⟩) m m)
        go_wp2
        refine bodyPost_ret (v := .agg #[.slice (some ⟨b1, 0, none⟩) m c1, .slice (some ⟨bf, 0, none⟩) m cf, .slice (some ⟨bc, 0, none⟩) (m + 1) (m + 1), .slice (some ⟨bn, 0, none⟩) m m]) (by simp [results, Tryd.results63, go_sem, k9.cell (k := 0) rfl, k9.cell (k := 1) rfl, k9.cell (k := 2) rfl, k9.cell (k := 3) rfl]) rfl ⟨b1, c1, bf, cf, bc, bn, rfl, rows4, ?_⟩
        exact ((((N0.out.trans M0).setCell (by dsimp only; omega) _).setCell (by dsimp only; omega) _).setCell (by dsimp only; omega) _).setCell (by dsimp only; omega) _
      refine AllReadyH.cons (o := ⟨some 18, _, _, _, _, _⟩) rfl (fun K hK => ?_) AllReadyH.nil
      go_simp
      obtain ⟨y13, hz⟩ : ∃ z, z = y9.alloc (.cells (Array.replicate (m) (Value.int .i64 0)) 3) := ⟨_, rfl⟩
      rw [← hz]
      have n_ : New y9 y13 := by rw [hz]; exact (New.refl _).alloc _
      obtain ⟨bn, hb_⟩ : ∃ z, z = y9.heap.size := ⟨_, rfl⟩
      rw [← hb_]
      have on : Own y13 bn (bn + 1) (some ⟨bn, 0, none⟩) (m) (m) (List.replicate (m) 0) := by rw [hb_, hz, ← List.toArray_replicate]; exact zeros_own _ _ (by omega)
      have pbn : y9.heap.size ≤ bn ∧ bn < y13.heap.size := by rw [hz, hb_]; simp
      clear hz hb_
      refine hK.out _ _ ⟨n_.cell hHeld.1, n_.cell hHeld.2⟩ (fun hHeld => ?_)
      clear hK K
      (try simp only [Act.put, List.setIfInBounds_toArray, List.set_cons_zero, List.set_cons_succ])
      replace oa := oa.new n_
      replace oc := oc.new n_
      have sy13 := n_.size
      replace M0 := M0.trans n_; clear n_
      refine wpAnyH_ready (rs := [5]) (by kernel_rfl) (by simp) ?_
      refine AllReadyH.cons (o := ⟨some 8, _, _, _, _, _⟩) rfl (fun K hK => ?_) AllReadyH.nil
      go_simp
      refine (cloneB_any _ ab m cb F (HB.out.new (N0.out.trans M0)) (by omega) (by omega)).mono ?_
      rintro e y14 ⟨q2, cf, rfl, o0, n_⟩
      obtain ⟨bf, rfl, l3, l4, ob⟩ := o0.exact (by omega); clear o0
      refine hK.out _ _ ⟨n_.cell hHeld.1, n_.cell hHeld.2⟩ (fun hHeld => ?_)
      clear hK K
      (try simp only [Act.put, List.setIfInBounds_toArray, List.set_cons_zero, List.set_cons_succ])
      replace oa := oa.new n_
      replace oc := oc.new n_
      replace on := on.new n_
      have sy14 := n_.size
      replace M0 := M0.trans n_; clear n_
      refine wpAnyH_take (i := 6) (oi := ⟨some 9, _, _, _, _, _⟩) (v := ?_) rfl (by kernel_rfl) (by kernel_rfl) (by kernel_rfl) (fun _ _ _ h => h) (Or.inl ⟨by rfl, ?_⟩) hHeld ?_; rotate_left; (· (intro w_ hSw; (try dsimp only at hSw); (try go_split_ands); go_simp; (try with_reducible rfl))); (try simp only [Act.put, List.setIfInBounds_toArray, List.set_cons_zero, List.set_cons_succ])
      refine wpAnyH_take (i := 16) (oi := ⟨some 19, _, _, _, _, _⟩) (v := ?_) rfl (by kernel_rfl) (by kernel_rfl) (by kernel_rfl) (fun _ _ _ h => h) (Or.inl ⟨by rfl, ?_⟩) hHeld ?_; rotate_left; (· (intro w_ hSw; (try dsimp only at hSw); (try go_split_ands); go_simp; (try with_reducible rfl))); (try simp only [Act.put, List.setIfInBounds_toArray, List.set_cons_zero, List.set_cons_succ])
      refine wpAnyH_ready (rs := [17]) (by kernel_rfl) (by simp) ?_
      refine AllReadyH.cons (o := ⟨none, _, _, _, _, _⟩) rfl (fun K hK => ?_) AllReadyH.nil
      have RM := RR.new M0; have x0 := RM.cell (k := 0) rfl; have f0 := RM.frozen 0; have x1 := RM.cell (k := 1) rfl; have f1 := RM.frozen 1; have x2 := RM.cell (k := 2) rfl; have f2 := RM.frozen 2; have x3 := RM.cell (k := 3) rfl; have f3 := RM.frozen 3
      go_simp
      refine hK.out _ _ ⟨World.cell_set (World.cell_set (World.cell_set (World.cell_set hHeld.1 (by simp)) (by simp)) (by simp)) (by simp), World.cell_set (World.cell_set (World.cell_set (World.cell_set hHeld.2 (by simp)) (by simp)) (by simp)) (by simp)⟩ (fun hHeld => ?_)
      clear hK K
      (try simp only [Act.put, List.setIfInBounds_toArray, List.set_cons_zero, List.set_cons_succ])
      refine wpAnyH_done (by kernel_rfl) ?_ _
      have k9 := (((((RR.new M0).set 0 (.slice (some ⟨b1, 0, none⟩) m c1)).set 1 (.slice (some ⟨bf, 0, none⟩) m cf)).set 2 (.slice (some ⟨bc, 0, none⟩) (m + 1) (m + 1))).set 3 (.slice (some ⟨bn, 0, none⟩) m m))
      have zM := (RR.new M0).lt
      have rows : LkRows y14 w.heap.size b1 c1 bf cf bc (m + 1) bn m L (newK F m) := ⟨by have := LkOk.newK F; rw [HF.out, ← HN.out] at this; rw [← HN.out]; exact this, by rw [← HN.out]; exact oa, by rw [← HN.out]; exact ob, by rw [← HN.out]; exact oc, by rw [← HN.out]; exact on, by omega, by omega, by omega⟩
      have rows4 := LkRows.setCell (LkRows.setCell (LkRows.setCell (LkRows.setCell (rows) (p := ⟨w.heap.size + 1, 0, none⟩) (by dsimp only; omega) (.slice (some ⟨b1, 0, none⟩) m c1)) (p := ⟨w.heap.size + 1, 1, none⟩) (by dsimp only; omega) (.slice (some ⟨bf, 0, none⟩) m cf)) (p := ⟨w.heap.size + 1, 2, none⟩) (by dsimp only; omega) (.slice (some ⟨bc, 0, none⟩) (m + 1) (m + 1))) (p := ⟨w.heap.size + 1, 3, none⟩) (by dsimp only; omega) (.slice (some ⟨bn, 0, none⟩) m m)
      go_wp2
      refine bodyPost_ret (v := .agg #[.slice (some ⟨b1, 0, none⟩) m c1, .slice (some ⟨bf, 0, none⟩) m cf, .slice (some ⟨bc, 0, none⟩) (m + 1) (m + 1), .slice (some ⟨bn, 0, none⟩) m m]) (by simp [results, Tryd.results63, go_sem, k9.cell (k := 0) rfl, k9.cell (k := 1) rfl, k9.cell (k := 2) rfl, k9.cell (k := 3) rfl]) rfl ⟨b1, c1, bf, cf, bc, bn, rfl, rows4, ?_⟩
      exact ((((N0.out.trans M0).setCell (by dsimp only; omega) _).setCell (by dsimp only; omega) _).setCell (by dsimp only; omega) _).setCell (by dsimp only; omega) _
    refine AllReadyH.cons (o := ⟨some 18, _, _, _, _, _⟩) rfl (fun K hK => ?_) AllReadyH.nil
    go_simp
    obtain ⟨y16, hz⟩ : ∃ z, z = y1.alloc (.cells (Array.replicate (m) (Value.int .i64 0)) 3) := ⟨_, rfl⟩
    rw [← hz]
    have n_ : New y1 y16 := by rw [hz]; exact (New.refl _).alloc _
    obtain ⟨bn, hb_⟩ : ∃ z, z = y1.heap.size := ⟨_, rfl⟩
    rw [← hb_]
    have on : Own y16 bn (bn + 1) (some ⟨bn, 0, none⟩) (m) (m) (List.replicate (m) 0) := by rw [hb_, hz, ← List.toArray_replicate]; exact zeros_own _ _ (by omega)
    have pbn : y1.heap.size ≤ bn ∧ bn < y16.heap.size := by rw [hz, hb_]; simp
    clear hz hb_
    refine hK.out _ _ ⟨n_.cell hHeld.1, n_.cell hHeld.2⟩ (fun hHeld => ?_)
    clear hK K
    (try simp only [Act.put, List.setIfInBounds_toArray, List.set_cons_zero, List.set_cons_succ])
    replace oa := oa.new n_
    have sy16 := n_.size
    replace M0 := M0.trans n_; clear n_
    refine wpAnyH_ready (rs := [5, 11]) (by kernel_rfl) (by simp) ?_
    refine AllReadyH.cons (o := ⟨some 8, _, _, _, _, _⟩) rfl (fun K hK => ?_) ?_
    · skip
      go_simp
      refine (cloneB_any _ ab m cb F (HB.out.new (N0.out.trans M0)) (by omega) (by omega)).mono ?_
      rintro e y17 ⟨q2, cf, rfl, o0, n_⟩
      obtain ⟨bf, rfl, l3, l4, ob⟩ := o0.exact (by omega); clear o0
      refine hK.out _ _ ⟨n_.cell hHeld.1, n_.cell hHeld.2⟩ (fun hHeld => ?_)
      clear hK K
      (try simp only [Act.put, List.setIfInBounds_toArray, List.set_cons_zero, List.set_cons_succ])
      replace oa := oa.new n_
      replace on := on.new n_
      have sy17 := n_.size
      replace M0 := M0.trans n_; clear n_
      refine wpAnyH_take (i := 6) (oi := ⟨some 9, _, _, _, _, _⟩) (v := ?_) rfl (by kernel_rfl) (by kernel_rfl) (by kernel_rfl) (fun _ _ _ h => h) (Or.inl ⟨by rfl, ?_⟩) hHeld ?_; rotate_left; (· (intro w_ hSw; (try dsimp only at hSw); (try go_split_ands); go_simp; (try with_reducible rfl))); (try simp only [Act.put, List.setIfInBounds_toArray, List.set_cons_zero, List.set_cons_succ])
      refine wpAnyH_ready (rs := [11]) (by kernel_rfl) (by simp) ?_
      refine AllReadyH.cons (o := ⟨some 14, _, _, _, _, _⟩) rfl (fun K hK => ?_) AllReadyH.nil
      go_simp
      obtain ⟨y18, hz⟩ : ∃ z, z = y17.alloc (.cells (Array.replicate (m + 1) (Value.int .i64 0)) 3) := ⟨_, rfl⟩
      rw [← hz]
      have n_ : New y17 y18 := by rw [hz]; exact (New.refl _).alloc _
      obtain ⟨bc, hb_⟩ : ∃ z, z = y17.heap.size := ⟨_, rfl⟩
      rw [← hb_]
      have oc : Own y18 bc (bc + 1) (some ⟨bc, 0, none⟩) (m + 1) (m + 1) (List.replicate (m + 1) 0) := by rw [hb_, hz, ← List.toArray_replicate]; exact zeros_own _ _ (by omega)
      have pbc : y17.heap.size ≤ bc ∧ bc < y18.heap.size := by rw [hz, hb_]; simp
      clear hz hb_
      refine hK.out _ _ ⟨n_.cell hHeld.1, n_.cell hHeld.2⟩ (fun hHeld => ?_)
      clear hK K
      (try simp only [Act.put, List.setIfInBounds_toArray, List.set_cons_zero, List.set_cons_succ])
      replace oa := oa.new n_
      replace on := on.new n_
      replace ob := ob.new n_
      have sy18 := n_.size
      replace M0 := M0.trans n_; clear n_
      refine wpAnyH_take (i := 16) (oi := ⟨some 19, _, _, _, _, _⟩) (v := ?_) rfl (by kernel_rfl) (by kernel_rfl) (by kernel_rfl) (fun _ _ _ h => h) (Or.inl ⟨by rfl, ?_⟩) hHeld ?_; rotate_left; (· (intro w_ hSw; (try dsimp only at hSw); (try go_split_ands); go_simp; (try with_reducible rfl))); (try simp only [Act.put, List.setIfInBounds_toArray, List.set_cons_zero, List.set_cons_succ])
      refine wpAnyH_ready (rs := [17]) (by kernel_rfl) (by simp) ?_
      refine AllReadyH.cons (o := ⟨none, _, _, _, _, _⟩) rfl (fun K hK => ?_) AllReadyH.nil
      have RM := RR.new M0; have x0 := RM.cell (k := 0) rfl; have f0 := RM.frozen 0; have x1 := RM.cell (k := 1) rfl; have f1 := RM.frozen 1; have x2 := RM.cell (k := 2) rfl; have f2 := RM.frozen 2; have x3 := RM.cell (k := 3) rfl; have f3 := RM.frozen 3
      go_simp
      refine hK.out _ _ ⟨World.cell_set (World.cell_set (World.cell_set (World.cell_set hHeld.1 (by simp)) (by simp)) (by simp)) (by simp), World.cell_set (World.cell_set (World.cell_set (World.cell_set hHeld.2 (by simp)) (by simp)) (by simp)) (by simp)⟩ (fun hHeld => ?_)
      clear hK K
      (try simp only [Act.put, List.setIfInBounds_toArray, List.set_cons_zero, List.set_cons_succ])
      refine wpAnyH_done (by kernel_rfl) ?_ _
      have k9 := (((((RR.new M0).set 0 (.slice (some ⟨b1, 0, none⟩) m c1)).set 1 (.slice (some ⟨bf, 0, none⟩) m cf)).set 2 (.slice (some ⟨bc, 0, none⟩) (m + 1) (m + 1))).set 3 (.slice (some ⟨bn, 0, none⟩) m m))
      have zM := (RR.new M0).lt
      have rows : LkRows y18 w.heap.size b1 c1 bf cf bc (m + 1) bn m L (newK F m) := ⟨by have := LkOk.newK F; rw [HF.out, ← HN.out] at this; rw [← HN.out]; exact this, by rw [← HN.out]; exact oa, by rw [← HN.out]; exact ob, by rw [← HN.out]; exact oc, by rw [← HN.out]; exact on, by omega, by omega, by omega⟩
      have rows4 := LkRows.setCell (LkRows.setCell (LkRows.setCell (LkRows.setCell (rows) (p := ⟨w.heap.size + 1, 0, none⟩) (by dsimp only; omega) (.slice (some ⟨b1, 0, none⟩) m c1)) (p := ⟨w.heap.size + 1, 1, none⟩) (by dsimp only; omega) (.slice (some ⟨bf, 0, none⟩) m cf)) (p := ⟨w.heap.size + 1, 2, none⟩) (by dsimp only; omega) (.slice (some ⟨bc, 0, none⟩) (m + 1) (m + 1))) (p := ⟨w.heap.size + 1, 3, none⟩) (by dsimp only; omega) (.slice (some ⟨bn, 0, none⟩) m m)
      go_wp2
      refine bodyPost_ret (v := .agg #[.slice (some ⟨b1, 0, none⟩) m c1, .slice (some ⟨bf, 0, none⟩) m cf, .slice (some ⟨bc, 0, none⟩) (m + 1) (m + 1), .slice (some ⟨bn, 0, none⟩) m m]) (by simp [results, Tryd.results63, go_sem, k9.cell (k := 0) rfl, k9.cell (k := 1) rfl, k9.cell (k := 2) rfl, k9.cell (k := 3) rfl]) rfl ⟨b1, c1, bf, cf, bc, bn, rfl, rows4, ?_⟩
      exact ((((N0.out.trans M0).setCell (by dsimp only; omega) _).setCell (by dsimp only; omega) _).setCell (by dsimp only; omega) _).setCell (by dsimp only; omega) _
    refine AllReadyH.cons (o := ⟨some 14, _, _, _, _, _⟩) rfl (fun K hK => ?_) AllReadyH.nil
    go_simp
    obtain ⟨y20, hz⟩ : ∃ z, z = y16.alloc (.cells (Array.replicate (m + 1) (Value.int .i64 0)) 3) := ⟨_, rfl⟩
    rw [← hz]
    have n_ : New y16 y20 := by rw [hz]; exact (New.refl _).alloc _
    obtain ⟨bc, hb_⟩ : ∃ z, z = y16.heap.size := ⟨_, rfl⟩
    rw [← hb_]
    have oc : Own y20 bc (bc + 1) (some ⟨bc, 0, none⟩) (m + 1) (m + 1) (List.replicate (m + 1) 0) := by rw [hb_, hz, ← List.toArray_replicate]; exact zeros_own _ _ (by omega)
    have pbc : y16.heap.size ≤ bc ∧ bc < y20.heap.size := by rw [hz, hb_]; simp
    clear hz hb_
    refine hK.out _ _ ⟨n_.cell hHeld.1, n_.cell hHeld.2⟩ (fun hHeld => ?_)
    clear hK K
    (try simp only [Act.put, List.setIfInBounds_toArray, List.set_cons_zero, List.set_cons_succ])
    replace oa := oa.new n_
    replace on := on.new n_
    have sy20 := n_.size
    replace M0 := M0.trans n_; clear n_
    refine wpAnyH_ready (rs := [5]) (by kernel_rfl) (by simp) ?_
    refine AllReadyH.cons (o := ⟨some 8, _, _, _, _, _⟩) rfl (fun K hK => ?_) AllReadyH.nil
    go_simp
    refine (cloneB_any _ ab m cb F (HB.out.new (N0.out.trans M0)) (by omega) (by omega)).mono ?_
    rintro e y21 ⟨q2, cf, rfl, o0, n_⟩
    obtain ⟨bf, rfl, l3, l4, ob⟩ := o0.exact (by omega); clear o0
    refine hK.out _ _ ⟨n_.cell hHeld.1, n_.cell hHeld.2⟩ (fun hHeld => ?_)
    clear hK K
    (try simp only [Act.put, List.setIfInBounds_toArray, List.set_cons_zero, List.set_cons_succ])
    replace oa := oa.new n_
    replace on := on.new n_
    replace oc := oc.new n_
    have sy21 := n_.size
    replace M0 := M0.trans n_; clear n_
    refine wpAnyH_take (i := 6) (oi := ⟨some 9, _, _, _, _, _⟩) (v := ?_) rfl (by kernel_rfl) (by kernel_rfl) (by kernel_rfl) (fun _ _ _ h => h) (Or.inl ⟨by rfl, ?_⟩) hHeld ?_; rotate_left; (· (intro w_ hSw; (try dsimp only at hSw); (try go_split_ands); go_simp; (try with_reducible rfl))); (try simp only [Act.put, List.setIfInBounds_toArray, List.set_cons_zero, List.set_cons_succ])
    refine wpAnyH_take (i := 16) (oi := ⟨some 19, _, _, _, _, _⟩) (v := ?_) rfl (by kernel_rfl) (by kernel_rfl) (by kernel_rfl) (fun _ _ _ h => h) (Or.inl ⟨by rfl, ?_⟩) hHeld ?_; rotate_left; (· (intro w_ hSw; (try dsimp only at hSw); (try go_split_ands); go_simp; (try with_reducible rfl))); (try simp only [Act.put, List.setIfInBounds_toArray, List.set_cons_zero, List.set_cons_succ])
    refine wpAnyH_ready (rs := [17]) (by kernel_rfl) (by simp) ?_
    refine AllReadyH.cons (o := ⟨none, _, _, _, _, _⟩) rfl (fun K hK => ?_) AllReadyH.nil
    have RM := RR.new M0; have x0 := RM.cell (k := 0) rfl; have f0 := RM.frozen 0; have x1 := RM.cell (k := 1) rfl; have f1 := RM.frozen 1; have x2 := RM.cell (k := 2) rfl; have f2 := RM.frozen 2; have x3 := RM.cell (k := 3) rfl; have f3 := RM.frozen 3
    go_simp
    refine hK.out _ _ ⟨World.cell_set (World.cell_set (World.cell_set (World.cell_set hHeld.1 (by simp)) (by simp)) (by simp)) (by simp), World.cell_set (World.cell_set (World.cell_set (World.cell_set hHeld.2 (by simp)) (by simp)) (by simp)) (by simp)⟩ (fun hHeld => ?_)
    clear hK K
    (try simp only [Act.put, List.setIfInBounds_toArray, List.set_cons_zero, List.set_cons_succ])
    refine wpAnyH_done (by kernel_rfl) ?_ _
    have k9 := (((((RR.new M0).set 0 (.slice (some ⟨b1, 0, none⟩) m c1)).set 1 (.slice (some ⟨bf, 0, none⟩) m cf)).set 2 (.slice (some ⟨bc, 0, none⟩) (m + 1) (m + 1))).set 3 (.slice (some ⟨bn, 0, none⟩) m m))
    have zM := (RR.new M0).lt
    have rows : LkRows y21 w.heap.size b1 c1 bf cf bc (m + 1) bn m L (newK F m) := ⟨by have := LkOk.newK F; rw [HF.out, ← HN.out] at this; rw [← HN.out]; exact this, by rw [← HN.out]; exact oa, by rw [← HN.out]; exact ob, by rw [← HN.out]; exact oc, by rw [← HN.out]; exact on, by omega, by omega, by omega⟩
    have rows4 := LkRows.setCell (LkRows.setCell (LkRows.setCell (LkRows.setCell (rows) (p := ⟨w.heap.size + 1, 0, none⟩) (by dsimp only; omega) (.slice (some ⟨b1, 0, none⟩) m c1)) (p := ⟨w.heap.size + 1, 1, none⟩) (by dsimp only; omega) (.slice (some ⟨bf, 0, none⟩) m cf)) (p := ⟨w.heap.size + 1, 2, none⟩) (by dsimp only; omega) (.slice (some ⟨bc, 0, none⟩) (m + 1) (m + 1))) (p := ⟨w.heap.size + 1, 3, none⟩) (by dsimp only; omega) (.slice (some ⟨bn, 0, none⟩) m m)
    go_wp2
    refine bodyPost_ret (v := .agg #[.slice (some ⟨b1, 0, none⟩) m c1, .slice (some ⟨bf, 0, none⟩) m cf, .slice (some ⟨bc, 0, none⟩) (m + 1) (m + 1), .slice (some ⟨bn, 0, none⟩) m m]) (by simp [results, Tryd.results63, go_sem, k9.cell (k := 0) rfl, k9.cell (k := 1) rfl, k9.cell (k := 2) rfl, k9.cell (k := 3) rfl]) rfl ⟨b1, c1, bf, cf, bc, bn, rfl, rows4, ?_⟩
    exact ((((N0.out.trans M0).setCell (by dsimp only; omega) _).setCell (by dsimp only; omega) _).setCell (by dsimp only; omega) _).setCell (by dsimp only; omega) _
  refine AllReadyH.cons (o := ⟨some 14, _, _, _, _, _⟩) rfl (fun K hK => ?_) ?_
  · skip
    go_simp
    obtain ⟨y23, hz⟩ : ∃ z, z = y0.alloc (.cells (Array.replicate (m + 1) (Value.int .i64 0)) 3) := ⟨_, rfl⟩
    rw [← hz]
    have n_ : New y0 y23 := by rw [hz]; exact (New.refl _).alloc _
    obtain ⟨bc, hb_⟩ : ∃ z, z = y0.heap.size := ⟨_, rfl⟩
    rw [← hb_]
    have oc : Own y23 bc (bc + 1) (some ⟨bc, 0, none⟩) (m + 1) (m + 1) (List.replicate (m + 1) 0) := by rw [hb_, hz, ← List.toArray_replicate]; exact zeros_own _ _ (by omega)
    have pbc : y0.heap.size ≤ bc ∧ bc < y23.heap.size := by rw [hz, hb_]; simp
    clear hz hb_
    refine hK.out _ _ ⟨n_.cell hHeld.1, n_.cell hHeld.2⟩ (fun hHeld => ?_)
    clear hK K
    (try simp only [Act.put, List.setIfInBounds_toArray, List.set_cons_zero, List.set_cons_succ])
    have sy23 := n_.size
    replace M0 := M0.trans n_; clear n_
    refine wpAnyH_ready (rs := [2, 15]) (by kernel_rfl) (by simp) ?_
    refine AllReadyH.cons (o := ⟨some 5, _, _, _, _, _⟩) rfl (fun K hK => ?_) ?_
    · skip
      go_simp
      refine (cloneI_any _ aa m ca L (HA.out.new (N0.out.trans M0)) (by omega) (by omega)).mono ?_
      rintro e y24 ⟨q1, c1, rfl, o0, n_⟩
      obtain ⟨b1, rfl, l1, l2, oa⟩ := o0.exact (by omega); clear o0
      refine hK.out _ _ ⟨n_.cell hHeld.1, n_.cell hHeld.2⟩ (fun hHeld => ?_)
      clear hK K
      (try simp only [Act.put, List.setIfInBounds_toArray, List.set_cons_zero, List.set_cons_succ])
      replace oc := oc.new n_
      have sy24 := n_.size
      replace M0 := M0.trans n_; clear n_
      refine wpAnyH_ready (rs := [5, 15]) (by kernel_rfl) (by simp) ?_
      refine AllReadyH.cons (o := ⟨some 8, _, _, _, _, _⟩) rfl (fun K hK => ?_) ?_
      · skip
        go_simp
        refine (cloneB_any _ ab m cb F (HB.out.new (N0.out.trans M0)) (by omega) (by omega)).mono ?_
        rintro e y25 ⟨q2, cf, rfl, o0, n_⟩
        obtain ⟨bf, rfl, l3, l4, ob⟩ := o0.exact (by omega); clear o0
        refine hK.out _ _ ⟨n_.cell hHeld.1, n_.cell hHeld.2⟩ (fun hHeld => ?_)
        clear hK K
        (try simp only [Act.put, List.setIfInBounds_toArray, List.set_cons_zero, List.set_cons_succ])
        replace oc := oc.new n_
        replace oa := oa.new n_
        have sy25 := n_.size
        replace M0 := M0.trans n_; clear n_
        refine wpAnyH_take (i := 6) (oi := ⟨some 9, _, _, _, _, _⟩) (v := ?_) rfl (by kernel_rfl) (by kernel_rfl) (by kernel_rfl) (fun _ _ _ h => h) (Or.inl ⟨by rfl, ?_⟩) hHeld ?_; rotate_left; (· (intro w_ hSw; (try dsimp only at hSw); (try go_split_ands); go_simp; (try with_reducible rfl))); (try simp only [Act.put, List.setIfInBounds_toArray, List.set_cons_zero, List.set_cons_succ])
        refine wpAnyH_ready (rs := [15]) (by kernel_rfl) (by simp) ?_
        refine AllReadyH.cons (o := ⟨some 18, _, _, _, _, _⟩) rfl (fun K hK => ?_) AllReadyH.nil
        go_simp
        obtain ⟨y26, hz⟩ : ∃ z, z = y25.alloc (.cells (Array.replicate (m) (Value.int .i64 0)) 3) := ⟨_, rfl⟩
        rw [← hz]
        have n_ : New y25 y26 := by rw [hz]; exact (New.refl _).alloc _
        obtain ⟨bn, hb_⟩ : ∃ z, z = y25.heap.size := ⟨_, rfl⟩
        rw [← hb_]
        have on : Own y26 bn (bn + 1) (some ⟨bn, 0, none⟩) (m) (m) (List.replicate (m) 0) := by rw [hb_, hz, ← List.toArray_replicate]; exact zeros_own _ _ (by omega)
        have pbn : y25.heap.size ≤ bn ∧ bn < y26.heap.size := by rw [hz, hb_]; simp
        clear hz hb_
        refine hK.out _ _ ⟨n_.cell hHeld.1, n_.cell hHeld.2⟩ (fun hHeld => ?_)
        clear hK K
        (try simp only [Act.put, List.setIfInBounds_toArray, List.set_cons_zero, List.set_cons_succ])
        replace oc := oc.new n_
        replace oa := oa.new n_
        replace ob := ob.new n_
        have sy26 := n_.size
        replace M0 := M0.trans n_; clear n_
        refine wpAnyH_take (i := 16) (oi := ⟨some 19, _, _, _, _, _⟩) (v := ?_) rfl (by kernel_rfl) (by kernel_rfl) (by kernel_rfl) (fun _ _ _ h => h) (Or.inl ⟨by rfl, ?_⟩) hHeld ?_; rotate_left; (· (intro w_ hSw; (try dsimp only at hSw); (try go_split_ands); go_simp; (try with_reducible rfl))); (try simp only [Act.put, List.setIfInBounds_toArray, List.set_cons_zero, List.set_cons_succ])
        refine wpAnyH_ready (rs := [17]) (by kernel_rfl) (by simp) ?_
        refine AllReadyH.cons (o := ⟨none, _, _, _, _, _⟩) rfl (fun K hK => ?_) AllReadyH.nil
        have RM := RR.new M0; have x0 := RM.cell (k := 0) rfl; have f0 := RM.frozen 0; have x1 := RM.cell (k := 1) rfl; have f1 := RM.frozen 1; have x2 := RM.cell (k := 2) rfl; have f2 := RM.frozen 2; have x3 := RM.cell (k := 3) rfl; have f3 := RM.frozen 3
        go_simp
        refine hK.out _ _ ⟨World.cell_set (World.cell_set (World.cell_set (World.cell_set hHeld.1 (by simp)) (by simp)) (by simp)) (by simp), World.cell_set (World.cell_set (World.cell_set (World.cell_set hHeld.2 (by simp)) (by simp)) (by simp)) (by simp)⟩ (fun hHeld => ?_)
        clear hK K
        (try simp only [Act.put, List.setIfInBounds_toArray, List.set_cons_zero, List.set_cons_succ])
        refine wpAnyH_done (by kernel_rfl) ?_ _
        have k9 := (((((RR.new M0).set 0 (.slice (some ⟨b1, 0, none⟩) m c1)).set 1 (.slice (some ⟨bf, 0, none⟩) m cf)).set 2 (.slice (some ⟨bc, 0, none⟩) (m + 1) (m + 1))).set 3 (.slice (some ⟨bn, 0, none⟩) m m))
        have zM := (RR.new M0).lt
        have rows : LkRows y26 w.heap.size b1 c1 bf cf bc (m + 1) bn m L (newK F m) := ⟨by have := LkOk.newK F; rw [HF.out, ← HN.out] at this; rw [← HN.out]; exact this, by rw [← HN.out]; exact oa, by rw [← HN.out]; exact ob, by rw [← HN.out]; exact oc, by rw [← HN.out]; exact on, by omega, by omega, by omega⟩
        have rows4 := LkRows.setCell (LkRows.setCell (LkRows.setCell (LkRows.setCell (rows) (p := ⟨w.heap.size + 1, 0, none⟩) (by dsimp only; omega) (.slice (some ⟨b1, 0, none⟩) m c1)) (p := ⟨w.heap.size + 1, 1, none⟩) (by dsimp only; omega) (.slice (some ⟨bf, 0, none⟩) m cf)) (p := ⟨w.heap.size + 1, 2, none⟩) (by dsimp only; omega) (.slice (some ⟨bc, 0, none⟩) (m + 1) (m + 1))) (p := ⟨w.heap.size + 1, 3, none⟩) (by dsimp only; omega) (.slice (some ⟨bn, 0, none⟩) m m)
        go_wp2
        refine bodyPost_ret (v := .agg #[.slice (some ⟨b1, 0, none⟩) m c1, .slice (some ⟨bf, 0, none⟩) m cf, .slice (some ⟨bc, 0, none⟩) (m + 1) (m + 1), .slice (some ⟨bn, 0, none⟩) m m]) (by simp [results, Tryd.results63, go_sem, k9.cell (k := 0) rfl, k9.cell (k := 1) rfl, k9.cell (k := 2) rfl, k9.cell (k := 3) rfl]) rfl ⟨b1, c1, bf, cf, bc, bn, rfl, rows4, ?_⟩
        exact ((((N0.out.trans M0).setCell (by dsimp only; omega) _).setCell (by dsimp only; omega) _).setCell (by dsimp only; omega) _).setCell (by dsimp only; omega) _
      refine AllReadyH.cons (o := ⟨some 18, _, _, _, _, _⟩) rfl (fun K hK => ?_) AllReadyH.nil
      go_simp
      obtain ⟨y28, hz⟩ : ∃ z, z = y24.alloc (.cells (Array.replicate (m) (Value.int .i64 0)) 3) := ⟨_, rfl⟩
      rw [← hz]
      have n_ : New y24 y28 := by rw [hz]; exact (New.refl _).alloc _
      obtain ⟨bn, hb_⟩ : ∃ z, z = y24.heap.size := ⟨_, rfl⟩
      rw [← hb_]
      have on : Own y28 bn (bn + 1) (some ⟨bn, 0, none⟩) (m) (m) (List.replicate (m) 0) := by rw [hb_, hz, ← List.toArray_replicate]; exact zeros_own _ _ (by omega)
      have pbn : y24.heap.size ≤ bn ∧ bn < y28.heap.size := by rw [hz, hb_]; simp
      clear hz hb_
      refine hK.out _ _ ⟨n_.cell hHeld.1, n_.cell hHeld.2⟩ (fun hHeld => ?_)
      clear hK K
      (try simp only [Act.put, List.setIfInBounds_toArray, List.set_cons_zero, List.set_cons_succ])
      replace oc := oc.new n_
      replace oa := oa.new n_
      have sy28 := n_.size
      replace M0 := M0.trans n_; clear n_
      refine wpAnyH_ready (rs := [5]) (by kernel_rfl) (by simp) ?_
      refine AllReadyH.cons (o := ⟨some 8, _, _, _, _, _⟩) rfl (fun K hK => ?_) AllReadyH.nil
      go_simp
      refine (cloneB_any _ ab m cb F (HB.out.new (N0.out.trans M0)) (by omega) (by omega)).mono ?_
      rintro e y29 ⟨q2, cf, rfl, o0, n_⟩
      obtain ⟨bf, rfl, l3, l4, ob⟩ := o0.exact (by omega); clear o0
      refine hK.out _ _ ⟨n_.cell hHeld.1, n_.cell hHeld.2⟩ (fun hHeld => ?_)
      clear hK K
      (try simp only [Act.put, List.setIfInBounds_toArray, List.set_cons_zero, List.set_cons_succ])
      replace oc := oc.new n_
      replace oa := oa.new n_
      replace on := on.new n_
      have sy29 := n_.size
      replace M0 := M0.trans n_; clear n_
      refine wpAnyH_take (i := 6) (oi := ⟨some 9, _, _, _, _, _⟩) (v := ?_) rfl (by kernel_rfl) (by kernel_rfl) (by kernel_rfl) (fun _ _ _ h => h) (Or.inl ⟨by rfl, ?_⟩) hHeld ?_; rotate_left; (· (intro w_ hSw; (try dsimp only at hSw); (try go_split_ands); go_simp; (try with_reducible rfl))); (try simp only [Act.put, List.setIfInBounds_toArray, List.set_cons_zero, List.set_cons_succ])
      refine wpAnyH_take (i := 16) (oi := ⟨some 19, _, _, _, _, _⟩) (v := ?_) rfl (by kernel_rfl) (by kernel_rfl) (by kernel_rfl) (fun _ _ _ h => h) (Or.inl ⟨by rfl, ?_⟩) hHeld ?_; rotate_left; (· (intro w_ hSw; (try dsimp only at hSw); (try go_split_ands); go_simp; (try with_reducible rfl))); (try simp only [Act.put, List.setIfInBounds_toArray, List.set_cons_zero, List.set_cons_succ])
      refine wpAnyH_ready (rs := [17]) (by kernel_rfl) (by simp) ?_
      refine AllReadyH.cons (o := ⟨none, _, _, _, _, _⟩) rfl (fun K hK => ?_) AllReadyH.nil
      have RM := RR.new M0; have x0 := RM.cell (k := 0) rfl; have f0 := RM.frozen 0; have x1 := RM.cell (k := 1) rfl; have f1 := RM.frozen 1; have x2 := RM.cell (k := 2) rfl; have f2 := RM.frozen 2; have x3 := RM.cell (k := 3) rfl; have f3 := RM.frozen 3
      go_simp
      refine hK.out _ _ ⟨World.cell_set (World.cell_set (World.cell_set (World.cell_set hHeld.1 (by simp)) (by simp)) (by simp)) (by simp), World.cell_set (World.cell_set (World.cell_set (World.cell_set hHeld.2 (by simp)) (by simp)) (by simp)) (by simp)⟩ (fun hHeld => ?_)
      clear hK K
      (try simp only [Act.put, List.setIfInBounds_toArray, List.set_cons_zero, List.set_cons_succ])
      refine wpAnyH_done (by kernel_rfl) ?_ _
      have k9 := (((((RR.new M0).set 0 (.slice (some ⟨b1, 0, none⟩) m c1)).set 1 (.slice (some ⟨bf, 0, none⟩) m cf)).set 2 (.slice (some ⟨bc, 0, none⟩) (m + 1) (m + 1))).set 3 (.slice (some ⟨bn, 0, none⟩) m m))
      have zM := (RR.new M0).lt
      have rows : LkRows y29 w.heap.size b1 c1 bf cf bc (m + 1) bn m L (newK F m) := ⟨by have := LkOk.newK F; rw [HF.out, ← HN.out] at this; rw [← HN.out]; exact this, by rw [← HN.out]; exact oa, by rw [← HN.out]; exact ob, by rw [← HN.out]; exact oc, by rw [← HN.out]; exact on, by omega, by omega, by omega⟩
      have rows4 := LkRows.setCell (LkRows.setCell (LkRows.setCell (LkRows.setCell (rows) (p := ⟨w.heap.size + 1, 0, none⟩) (by dsimp only; omega) (.slice (some ⟨b1, 0, none⟩) m c1)) (p := ⟨w.heap.size + 1, 1, none⟩) (by dsimp only; omega) (.slice (some ⟨bf, 0, none⟩) m cf)) (p := ⟨w.heap.size + 1, 2, none⟩) (by dsimp only; omega) (.slice (some ⟨bc, 0, none⟩) (m + 1) (m + 1))) (p := ⟨w.heap.size + 1, 3, none⟩) (by dsimp only; omega) (.slice (some ⟨bn, 0, none⟩) m m)
      go_wp2
      refine bodyPost_ret (v := .agg #[.slice (some ⟨b1, 0, none⟩) m c1, .slice (some ⟨bf, 0, none⟩) m cf, .slice (some ⟨bc, 0, none⟩) (m + 1) (m + 1), .slice (some ⟨bn, 0, none⟩) m m]) (by simp [results, Tryd.results63, go_sem, k9.cell (k := 0) rfl, k9.cell (k := 1) rfl, k9.cell (k := 2) rfl, k9.cell (k := 3) rfl]) rfl ⟨b1, c1, bf, cf, bc, bn, rfl, rows4, ?_⟩
      exact ((((N0.out.trans M0).setCell (by dsimp only; omega) _).setCell (by dsimp only; omega) _).setCell (by dsimp only; omega) _).setCell (by dsimp only; omega) _
    refine AllReadyH.cons (o := ⟨some 18, _, _, _, _, _⟩) rfl (fun K hK => ?_) AllReadyH.nil
    go_simp
    obtain ⟨y31, hz⟩ : ∃ z, z = y23.alloc (.cells (Array.replicate (m) (Value.int .i64 0)) 3) := ⟨_, rfl⟩
    rw [← hz]
    have n_ : New y23 y31 := by rw [hz]; exact (New.refl _).alloc _
    obtain ⟨bn, hb_⟩ : ∃ z, z = y23.heap.size := ⟨_, rfl⟩
    rw [← hb_]
    have on : Own y31 bn (bn + 1) (some ⟨bn, 0, none⟩) (m) (m) (List.replicate (m) 0) := by rw [hb_, hz, ← List.toArray_replicate]; exact zeros_own _ _ (by omega)
    have pbn : y23.heap.size ≤ bn ∧ bn < y31.heap.size := by rw [hz, hb_]; simp
    clear hz hb_
    refine hK.out _ _ ⟨n_.cell hHeld.1, n_.cell hHeld.2⟩ (fun hHeld => ?_)
    clear hK K
    (try simp only [Act.put, List.setIfInBounds_toArray, List.set_cons_zero, List.set_cons_succ])
    replace oc := oc.new n_
    have sy31 := n_.size
    replace M0 := M0.trans n_; clear n_
    refine wpAnyH_ready (rs := [2]) (by kernel_rfl) (by simp) ?_
    refine AllReadyH.cons (o := ⟨some 5, _, _, _, _, _⟩) rfl (fun K hK => ?_) AllReadyH.nil
    go_simp
    refine (cloneI_any _ aa m ca L (HA.out.new (N0.out.trans M0)) (by omega) (by omega)).mono ?_
    rintro e y32 ⟨q1, c1, rfl, o0, n_⟩
    obtain ⟨b1, rfl, l1, l2, oa⟩ := o0.exact (by omega); clear o0
    refine hK.out _ _ ⟨n_.cell hHeld.1, n_.cell hHeld.2⟩ (fun hHeld => ?_)
    clear hK K
    (try simp only [Act.put, List.setIfInBounds_toArray, List.set_cons_zero, List.set_cons_succ])
    replace oc := oc.new n_
    replace on := on.new n_
    have sy32 := n_.size
    replace M0 := M0.trans n_; clear n_
    refine wpAnyH_ready (rs := [5]) (by kernel_rfl) (by simp) ?_
    refine AllReadyH.cons (o := ⟨some 8, _, _, _, _, _⟩) rfl (fun K hK => ?_) AllReadyH.nil
    go_simp
    refine (cloneB_any _ ab m cb F (HB.out.new (N0.out.trans M0)) (by omega) (by omega)).mono ?_
    rintro e y33 ⟨q2, cf, rfl, o0, n_⟩
    obtain ⟨bf, rfl, l3, l4, ob⟩ := o0.exact (by omega); clear o0
    refine hK.out _ _ ⟨n_.cell hHeld.1, n_.cell hHeld.2⟩ (fun hHeld => ?_)
    clear hK K
    (try simp only [Act.put, List.setIfInBounds_toArray, List.set_cons_zero, List.set_cons_succ])
    replace oc := oc.new n_
    replace on := on.new n_
    replace oa := oa.new n_
    have sy33 := n_.size
    replace M0 := M0.trans n_; clear n_
    refine wpAnyH_take (i := 6) (oi := ⟨some 9, _, _, _, _, _⟩) (v := ?_) rfl (by kernel_rfl) (by kernel_rfl) (by kernel_rfl) (fun _ _ _ h => h) (Or.inl ⟨by rfl, ?_⟩) hHeld ?_; rotate_left; (· (intro w_ hSw; (try dsimp only at hSw); (try go_split_ands); go_simp; (try with_reducible rfl))); (try simp only [Act.put, List.setIfInBounds_toArray, List.set_cons_zero, List.set_cons_succ])
    refine wpAnyH_take (i := 16) (oi := ⟨some 19, _, _, _, _, _⟩) (v := ?_) rfl (by kernel_rfl) (by kernel_rfl) (by kernel_rfl) (fun _ _ _ h => h) (Or.inl ⟨by rfl, ?_⟩) hHeld ?_; rotate_left; (· (intro w_ hSw; (try dsimp only at hSw); (try go_split_ands); go_simp; (try with_reducible rfl))); (try simp only [Act.put, List.setIfInBounds_toArray, List.set_cons_zero, List.set_cons_succ])
    refine wpAnyH_ready (rs := [17]) (by kernel_rfl) (by simp) ?_
    refine AllReadyH.cons (o := ⟨none, _, _, _, _, _⟩) rfl (fun K hK => ?_) AllReadyH.nil
    have RM := RR.new M0; have x0 := RM.cell (k := 0) rfl; have f0 := RM.frozen 0; have x1 := RM.cell (k := 1) rfl; have f1 := RM.frozen 1; have x2 := RM.cell (k := 2) rfl; have f2 := RM.frozen 2; have x3 := RM.cell (k := 3) rfl; have f3 := RM.frozen 3
    go_simp
    refine hK.out _ _ ⟨World.cell_set (World.cell_set (World.cell_set (World.cell_set hHeld.1 (by simp)) (by simp)) (by simp)) (by simp), World.cell_set (World.cell_set (World.cell_set (World.cell_set hHeld.2 (by simp)) (by simp)) (by simp)) (by simp)⟩ (fun hHeld => ?_)
    clear hK K
    (try simp only [Act.put, List.setIfInBounds_toArray, List.set_cons_zero, List.set_cons_succ])
    refine wpAnyH_done (by kernel_rfl) ?_ _
    have k9 := (((((RR.new M0).set 0 (.slice (some ⟨b1, 0, none⟩) m c1)).set 1 (.slice (some ⟨bf, 0, none⟩) m cf)).set 2 (.slice (some ⟨bc, 0, none⟩) (m + 1) (m + 1))).set 3 (.slice (some ⟨bn, 0, none⟩) m m))
    have zM := (RR.new M0).lt
    have rows : LkRows y33 w.heap.size b1 c1 bf cf bc (m + 1) bn m L (newK F m) := ⟨by have := LkOk.newK F; rw [HF.out, ← HN.out] at this; rw [← HN.out]; exact this, by rw [← HN.out]; exact oa, by rw [← HN.out]; exact ob, by rw [← HN.out]; exact oc, by rw [← HN.out]; exact on, by omega, by omega, by omega⟩
    have rows4 := LkRows.setCell (LkRows.setCell (LkRows.setCell (LkRows.setCell (rows) (p := ⟨w.heap.size + 1, 0, none⟩) (by dsimp only; omega) (.slice (some ⟨b1, 0, none⟩) m c1)) (p := ⟨w.heap.size + 1, 1, none⟩) (by dsimp only; omega) (.slice (some ⟨bf, 0, none⟩) m cf)) (p := ⟨w.heap.size + 1, 2, none⟩) (by dsimp only; omega) (.slice (some ⟨bc, 0, none⟩) (m + 1) (m + 1))) (p := ⟨w.heap.size + 1, 3, none⟩) (by dsimp only; omega) (.slice (some ⟨bn, 0, none⟩) m m)
    go_wp2
    refine bodyPost_ret (v := .agg #[.slice (some ⟨b1, 0, none⟩) m c1, .slice (some ⟨bf, 0, none⟩) m cf, .slice (some ⟨bc, 0, none⟩) (m + 1) (m + 1), .slice (some ⟨bn, 0, none⟩) m m]) (by simp [results, Tryd.results63, go_sem, k9.cell (k := 0) rfl, k9.cell (k := 1) rfl, k9.cell (k := 2) rfl, k9.cell (k := 3) rfl]) rfl ⟨b1, c1, bf, cf, bc, bn, rfl, rows4, ?_⟩
    exact ((((N0.out.trans M0).setCell (by dsimp only; omega) _).setCell (by dsimp only; omega) _).setCell (by dsimp only; omega) _).setCell (by dsimp only; omega) _
  refine AllReadyH.cons (o := ⟨some 18, _, _, _, _, _⟩) rfl (fun K hK => ?_) AllReadyH.nil
  go_simp
  obtain ⟨y35, hz⟩ : ∃ z, z = y0.alloc (.cells (Array.replicate (m) (Value.int .i64 0)) 3) := ⟨_, rfl⟩
  rw [← hz]
  have n_ : New y0 y35 := by rw [hz]; exact (New.refl _).alloc _
  obtain ⟨bn, hb_⟩ : ∃ z, z = y0.heap.size := ⟨_, rfl⟩
  rw [← hb_]
  have on : Own y35 bn (bn + 1) (some ⟨bn, 0, none⟩) (m) (m) (List.replicate (m) 0) := by rw [hb_, hz, ← List.toArray_replicate]; exact zeros_own _ _ (by omega)
  have pbn : y0.heap.size ≤ bn ∧ bn < y35.heap.size := by rw [hz, hb_]; simp
  clear hz hb_
  refine hK.out _ _ ⟨n_.cell hHeld.1, n_.cell hHeld.2⟩ (fun hHeld => ?_)
  clear hK K
  (try simp only [Act.put, List.setIfInBounds_toArray, List.set_cons_zero, List.set_cons_succ])
  have sy35 := n_.size
  replace M0 := M0.trans n_; clear n_
  refine wpAnyH_ready (rs := [2, 11]) (by kernel_rfl) (by simp) ?_
  refine AllReadyH.cons (o := ⟨some 5, _, _, _, _, _⟩) rfl (fun K hK => ?_) ?_
  · skip
    go_simp
    refine (cloneI_any _ aa m ca L (HA.out.new (N0.out.trans M0)) (by omega) (by omega)).mono ?_
    rintro e y36 ⟨q1, c1, rfl, o0, n_⟩
    obtain ⟨b1, rfl, l1, l2, oa⟩ := o0.exact (by omega); clear o0
    refine hK.out _ _ ⟨n_.cell hHeld.1, n_.cell hHeld.2⟩ (fun hHeld => ?_)
    clear hK K
    (try simp only [Act.put, List.setIfInBounds_toArray, List.set_cons_zero, List.set_cons_succ])
    replace on := on.new n_
    have sy36 := n_.size
    replace M0 := M0.trans n_; clear n_
    refine wpAnyH_ready (rs := [5, 11]) (by kernel_rfl) (by simp) ?_
    refine AllReadyH.cons (o := ⟨some 8, _, _, _, _, _⟩) rfl (fun K hK => ?_) ?_
    · skip
      go_simp
      refine (cloneB_any _ ab m cb F (HB.out.new (N0.out.trans M0)) (by omega) (by omega)).mono ?_
      rintro e y37 ⟨q2, cf, rfl, o0, n_⟩
      obtain ⟨bf, rfl, l3, l4, ob⟩ := o0.exact (by omega); clear o0
      refine hK.out _ _ ⟨n_.cell hHeld.1, n_.cell hHeld.2⟩ (fun hHeld => ?_)
      clear hK K
      (try simp only [Act.put, List.setIfInBounds_toArray, List.set_cons_zero, List.set_cons_succ])
      replace on := on.new n_
      replace oa := oa.new n_
      have sy37 := n_.size
      replace M0 := M0.trans n_; clear n_
      refine wpAnyH_take (i := 6) (oi := ⟨some 9, _, _, _, _, _⟩) (v := ?_) rfl (by kernel_rfl) (by kernel_rfl) (by kernel_rfl) (fun _ _ _ h => h) (Or.inl ⟨by rfl, ?_⟩) hHeld ?_; rotate_left; (· (intro w_ hSw; (try dsimp only at hSw); (try go_split_ands); go_simp; (try with_reducible rfl))); (try simp only [Act.put, List.setIfInBounds_toArray, List.set_cons_zero, List.set_cons_succ])
      refine wpAnyH_ready (rs := [11]) (by kernel_rfl) (by simp) ?_
      refine AllReadyH.cons (o := ⟨some 14, _, _, _, _, _⟩) rfl (fun K hK => ?_) AllReadyH.nil
      go_simp
      obtain ⟨y38, hz⟩ : ∃ z, z = y37.alloc (.cells (Array.replicate (m + 1) (Value.int .i64 0)) 3) := ⟨_, rfl⟩
      rw [← hz]
      have n_ : New y37 y38 := by rw [hz]; exact (New.refl _).alloc _
      obtain ⟨bc, hb_⟩ : ∃ z, z = y37.heap.size := ⟨_, rfl⟩
      rw [← hb_]
      have oc : Own y38 bc (bc + 1) (some ⟨bc, 0, none⟩) (m + 1) (m + 1) (List.replicate (m + 1) 0) := by rw [hb_, hz, ← List.toArray_replicate]; exact zeros_own _ _ (by omega)
      have pbc : y37.heap.size ≤ bc ∧ bc < y38.heap.size := by rw [hz, hb_]; simp
      clear hz hb_
      refine hK.out _ _ ⟨n_.cell hHeld.1, n_.cell hHeld.2⟩ (fun hHeld => ?_)
      clear hK K
      (try simp only [Act.put, List.setIfInBounds_toArray, List.set_cons_zero, List.set_cons_succ])
      replace on := on.new n_
      replace oa := oa.new n_
      replace ob := ob.new n_
      have sy38 := n_.size
      replace M0 := M0.trans n_; clear n_
      refine wpAnyH_take (i := 16) (oi := ⟨some 19, _, _, _, _, _⟩) (v := ?_) rfl (by kernel_rfl) (by kernel_rfl) (by kernel_rfl) (fun _ _ _ h => h) (Or.inl ⟨by rfl, ?_⟩) hHeld ?_; rotate_left; (· (intro w_ hSw; (try dsimp only at hSw); (try go_split_ands); go_simp; (try with_reducible rfl))); (try simp only [Act.put, List.setIfInBounds_toArray, List.set_cons_zero, List.set_cons_succ])
      refine wpAnyH_ready (rs := [17]) (by kernel_rfl) (by simp) ?_
      refine AllReadyH.cons (o := ⟨none, _, _, _, _, _⟩) rfl (fun K hK => ?_) AllReadyH.nil
      have RM := RR.new M0; have x0 := RM.cell (k := 0) rfl; have f0 := RM.frozen 0; have x1 := RM.cell (k := 1) rfl; have f1 := RM.frozen 1; have x2 := RM.cell (k := 2) rfl; have f2 := RM.frozen 2; have x3 := RM.cell (k := 3) rfl; have f3 := RM.frozen 3
      go_simp
      refine hK.out _ _ ⟨World.cell_set (World.cell_set (World.cell_set (World.cell_set hHeld.1 (by simp)) (by simp)) (by simp)) (by simp), World.cell_set (World.cell_set (World.cell_set (World.cell_set hHeld.2 (by simp)) (by simp)) (by simp)) (by simp)⟩ (fun hHeld => ?_)
      clear hK K
      (try simp only [Act.put, List.setIfInBounds_toArray, List.set_cons_zero, List.set_cons_succ])
      refine wpAnyH_done (by kernel_rfl) ?_ _
      have k9 := (((((RR.new M0).set 0 (.slice (some ⟨b1, 0, none⟩) m c1)).set 1 (.slice (some ⟨bf, 0, none⟩) m cf)).set 2 (.slice (some ⟨bc, 0, none⟩) (m + 1) (m + 1))).set 3 (.slice (some ⟨bn, 0, none⟩) m m))
      have zM := (RR.new M0).lt
      have rows : LkRows y38 w.heap.size b1 c1 bf cf bc (m + 1) bn m L (newK F m) := ⟨by have := LkOk.newK F; rw [HF.out, ← HN.out] at this; rw [← HN.out]; exact this, by rw [← HN.out]; exact oa, by rw [← HN.out]; exact ob, by rw [← HN.out]; exact oc, by rw [← HN.out]; exact on, by omega, by omega, by omega⟩
      have rows4 := LkRows.setCell (LkRows.setCell (LkRows.setCell (LkRows.setCell (rows) (p := ⟨w.heap.size + 1, 0, none⟩) (by dsimp only; omega) (.slice (some ⟨b1, 0, none⟩) m c1)) (p := ⟨w.heap.size + 1, 1, none⟩) (by dsimp only; omega) (.slice (some ⟨bf, 0, none⟩) m cf)) (p := ⟨w.heap.size + 1, 2, none⟩) (by dsimp only; omega) (.slice (some ⟨bc, 0, none⟩) (m + 1) (m + 1))) (p := ⟨w.heap.size + 1, 3, none⟩) (by dsimp only; omega) (.slice (some ⟨bn, 0, none⟩) m m)
      go_wp2
      refine bodyPost_ret (v := .agg #[.slice (some ⟨b1, 0, none⟩) m c1, .slice (some ⟨bf, 0, none⟩) m cf, .slice (some ⟨bc, 0, none⟩) (m + 1) (m + 1), .slice (some ⟨bn, 0, none⟩) m m]) (by simp [results, Tryd.results63, go_sem, k9.cell (k := 0) rfl, k9.cell (k := 1) rfl, k9.cell (k := 2) rfl, k9.cell (k := 3) rfl]) rfl ⟨b1, c1, bf, cf, bc, bn, rfl, rows4, ?_⟩
      exact ((((N0.out.trans M0).setCell (by dsimp only; omega) _).setCell (by dsimp only; omega) _).setCell (by dsimp only; omega) _).setCell (by dsimp only; omega) _
    refine AllReadyH.cons (o := ⟨some 14, _, _, _, _, _⟩) rfl (fun K hK => ?_) AllReadyH.nil
    go_simp
    obtain ⟨y40, hz⟩ : ∃ z, z = y36.alloc (.cells (Array.replicate (m + 1) (Value.int .i64 0)) 3) := ⟨_, rfl⟩
    rw [← hz]
    have n_ : New y36 y40 := by rw [hz]; exact (New.refl _).alloc _
    obtain ⟨bc, hb_⟩ : ∃ z, z = y36.heap.size := ⟨_, rfl⟩
    rw [← hb_]
    have oc : Own y40 bc (bc + 1) (some ⟨bc, 0, none⟩) (m + 1) (m + 1) (List.replicate (m + 1) 0) := by rw [hb_, hz, ← List.toArray_replicate]; exact zeros_own _ _ (by omega)
    have pbc : y36.heap.size ≤ bc ∧ bc < y40.heap.size := by rw [hz, hb_]; simp
    clear hz hb_
    refine hK.out _ _ ⟨n_.cell hHeld.1, n_.cell hHeld.2⟩ (fun hHeld => ?_)
    clear hK K
    (try simp only [Act.put, List.setIfInBounds_toArray, List.set_cons_zero, List.set_cons_succ])
    replace on := on.new n_
    replace oa := oa.new n_
    have sy40 := n_.size
    replace M0 := M0.trans n_; clear n_
    refine wpAnyH_ready (rs := [5]) (by kernel_rfl) (by simp) ?_
    refine AllReadyH.cons (o := ⟨some 8, _, _, _, _, _⟩) rfl (fun K hK => ?_) AllReadyH.nil
    go_simp
    refine (cloneB_any _ ab m cb F (HB.out.new (N0.out.trans M0)) (by omega) (by omega)).mono ?_
    rintro e y41 ⟨q2, cf, rfl, o0, n_⟩
    obtain ⟨bf, rfl, l3, l4, ob⟩ := o0.exact (by omega); clear o0
    refine hK.out _ _ ⟨n_.cell hHeld.1, n_.cell hHeld.2⟩ (fun hHeld => ?_)
    clear hK K
    (try simp only [Act.put, List.setIfInBounds_toArray, List.set_cons_zero, List.set_cons_succ])
    replace on := on.new n_
    replace oa := oa.new n_
    replace oc := oc.new n_
    have sy41 := n_.size
    replace M0 := M0.trans n_; clear n_
    refine wpAnyH_take (i := 6) (oi := ⟨some 9, _, _, _, _, _⟩) (v := ?_) rfl (by kernel_rfl) (by kernel_rfl) (by kernel_rfl) (fun _ _ _ h => h) (Or.inl ⟨by rfl, ?_⟩) hHeld ?_; rotate_left; (· (intro w_ hSw; (try dsimp only at hSw); (try go_split_ands); go_simp; (try with_reducible rfl))); (try simp only [Act.put, List.setIfInBounds_toArray, List.set_cons_zero, List.set_cons_succ])
    refine wpAnyH_take (i := 16) (oi := ⟨some 19, _, _, _, _, _⟩) (v := ?_) rfl (by kernel_rfl) (by kernel_rfl) (by kernel_rfl) (fun _ _ _ h => h) (Or.inl ⟨by rfl, ?_⟩) hHeld ?_; rotate_left; (· (intro w_ hSw; (try dsimp only at hSw); (try go_split_ands); go_simp; (try with_reducible rfl))); (try simp only [Act.put, List.setIfInBounds_toArray, List.set_cons_zero, List.set_cons_succ])
    refine wpAnyH_ready (rs := [17]) (by kernel_rfl) (by simp) ?_
    refine AllReadyH.cons (o := ⟨none, _, _, _, _, _⟩) rfl (fun K hK => ?_) AllReadyH.nil
    have RM := RR.new M0; have x0 := RM.cell (k := 0) rfl; have f0 := RM.frozen 0; have x1 := RM.cell (k := 1) rfl; have f1 := RM.frozen 1; have x2 := RM.cell (k := 2) rfl; have f2 := RM.frozen 2; have x3 := RM.cell (k := 3) rfl; have f3 := RM.frozen 3
    go_simp
    refine hK.out _ _ ⟨World.cell_set (World.cell_set (World.cell_set (World.cell_set hHeld.1 (by simp)) (by simp)) (by simp)) (by simp), World.cell_set (World.cell_set (World.cell_set (World.cell_set hHeld.2 (by simp)) (by simp)) (by simp)) (by simp)⟩ (fun hHeld => ?_)
    clear hK K
    (try simp only [Act.put, List.setIfInBounds_toArray, List.set_cons_zero, List.set_cons_succ])
    refine wpAnyH_done (by kernel_rfl) ?_ _
    have k9 := (((((RR.new M0).set 0 (.slice (some ⟨b1, 0, none⟩) m c1)).set 1 (.slice (some ⟨bf, 0, none⟩) m cf)).set 2 (.slice (some ⟨bc, 0, none⟩) (m + 1) (m + 1))).set 3 (.slice (some ⟨bn, 0, none⟩) m m))
    have zM := (RR.new M0).lt
    have rows : LkRows y41 w.heap.size b1 c1 bf cf bc (m + 1) bn m L (newK F m) := ⟨by have := LkOk.newK F; rw [HF.out, ← HN.out] at this; rw [← HN.out]; exact this, by rw [← HN.out]; exact oa, by rw [← HN.out]; exact ob, by rw [← HN.out]; exact oc, by rw [← HN.out]; exact on, by omega, by omega, by omega⟩
    have rows4 := LkRows.setCell (LkRows.setCell (LkRows.setCell (LkRows.setCell (rows) (p := ⟨w.heap.size + 1, 0, none⟩) (by dsimp only; omega) (.slice (some ⟨b1, 0, none⟩) m c1)) (p := ⟨w.heap.size + 1, 1, none⟩) (by dsimp only; omega) (.slice (some ⟨bf, 0, none⟩) m cf)) (p := ⟨w.heap.size + 1, 2, none⟩) (by dsimp only; omega) (.slice (some ⟨bc, 0, none⟩) (m + 1) (m + 1))) (p := ⟨w.heap.size + 1, 3, none⟩) (by dsimp only; omega) (.slice (some ⟨bn, 0, none⟩) m m)
    go_wp2
    refine bodyPost_ret (v := .agg #[.slice (some ⟨b1, 0, none⟩) m c1, .slice (some ⟨bf, 0, none⟩) m cf, .slice (some ⟨bc, 0, none⟩) (m + 1) (m + 1), .slice (some ⟨bn, 0, none⟩) m m]) (by simp [results, Tryd.results63, go_sem, k9.cell (k := 0) rfl, k9.cell (k := 1) rfl, k9.cell (k := 2) rfl, k9.cell (k := 3) rfl]) rfl ⟨b1, c1, bf, cf, bc, bn, rfl, rows4, ?_⟩
    exact ((((N0.out.trans M0).setCell (by dsimp only; omega) _).setCell (by dsimp only; omega) _).setCell (by dsimp only; omega) _).setCell (by dsimp only; omega) _
  refine AllReadyH.cons (o := ⟨some 14, _, _, _, _, _⟩) rfl (fun K hK => ?_) AllReadyH.nil
  go_simp
  obtain ⟨y43, hz⟩ : ∃ z, z = y35.alloc (.cells (Array.replicate (m + 1) (Value.int .i64 0)) 3) := ⟨_, rfl⟩
  rw [← hz]
  have n_ : New y35 y43 := by rw [hz]; exact (New.refl _).alloc _
  obtain ⟨bc, hb_⟩ : ∃ z, z = y35.heap.size := ⟨_, rfl⟩
  rw [← hb_]
  have oc : Own y43 bc (bc + 1) (some ⟨bc, 0, none⟩) (m + 1) (m + 1) (List.replicate (m + 1) 0) := by rw [hb_, hz, ← List.toArray_replicate]; exact zeros_own _ _ (by omega)
  have pbc : y35.heap.size ≤ bc ∧ bc < y43.heap.size := by rw [hz, hb_]; simp
  clear hz hb_
  refine hK.out _ _ ⟨n_.cell hHeld.1, n_.cell hHeld.2⟩ (fun hHeld => ?_)
  clear hK K
  (try simp only [Act.put, List.setIfInBounds_toArray, List.set_cons_zero, List.set_cons_succ])
  replace on := on.new n_
  have sy43 := n_.size
  replace M0 := M0.trans n_; clear n_
  refine wpAnyH_ready (rs := [2]) (by kernel_rfl) (by simp) ?_
  refine AllReadyH.cons (o := ⟨some 5, _, _, _, _, _⟩) rfl (fun K hK => ?_) AllReadyH.nil
  go_simp
  refine (cloneI_any _ aa m ca L (HA.out.new (N0.out.trans M0)) (by omega) (by omega)).mono ?_
  rintro e y44 ⟨q1, c1, rfl, o0, n_⟩
  obtain ⟨b1, rfl, l1, l2, oa⟩ := o0.exact (by omega); clear o0
  refine hK.out _ _ ⟨n_.cell hHeld.1, n_.cell hHeld.2⟩ (fun hHeld => ?_)
  clear hK K
  (try simp only [Act.put, List.setIfInBounds_toArray, List.set_cons_zero, List.set_cons_succ])
  replace on := on.new n_
  replace oc := oc.new n_
  have sy44 := n_.size
  replace M0 := M0.trans n_; clear n_
  refine wpAnyH_ready (rs := [5]) (by kernel_rfl) (by simp) ?_
  refine AllReadyH.cons (o := ⟨some 8, _, _, _, _, _⟩) rfl (fun K hK => ?_) AllReadyH.nil
  go_simp
  refine (cloneB_any _ ab m cb F (HB.out.new (N0.out.trans M0)) (by omega) (by omega)).mono ?_
  rintro e y45 ⟨q2, cf, rfl, o0, n_⟩
  obtain ⟨bf, rfl, l3, l4, ob⟩ := o0.exact (by omega); clear o0
  refine hK.out _ _ ⟨n_.cell hHeld.1, n_.cell hHeld.2⟩ (fun hHeld => ?_)
  clear hK K
  (try simp only [Act.put, List.setIfInBounds_toArray, List.set_cons_zero, List.set_cons_succ])
  replace on := on.new n_
  replace oc := oc.new n_
  replace oa := oa.new n_
  have sy45 := n_.size
  replace M0 := M0.trans n_; clear n_
  refine wpAnyH_take (i := 6) (oi := ⟨some 9, _, _, _, _, _⟩) (v := ?_) rfl (by kernel_rfl) (by kernel_rfl) (by kernel_rfl) (fun _ _ _ h => h) (Or.inl ⟨by rfl, ?_⟩) hHeld ?_; rotate_left; (· (intro w_ hSw; (try dsimp only at hSw); (try go_split_ands); go_simp; (try with_reducible rfl))); (try simp only [Act.put, List.setIfInBounds_toArray, List.set_cons_zero, List.set_cons_succ])
  refine wpAnyH_take (i := 16) (oi := ⟨some 19, _, _, _, _, _⟩) (v := ?_) rfl (by kernel_rfl) (by kernel_rfl) (by kernel_rfl) (fun _ _ _ h => h) (Or.inl ⟨by rfl, ?_⟩) hHeld ?_; rotate_left; (· (intro w_ hSw; (try dsimp only at hSw); (try go_split_ands); go_simp; (try with_reducible rfl))); (try simp only [Act.put, List.setIfInBounds_toArray, List.set_cons_zero, List.set_cons_succ])
  refine wpAnyH_ready (rs := [17]) (by kernel_rfl) (by simp) ?_
  refine AllReadyH.cons (o := ⟨none, _, _, _, _, _⟩) rfl (fun K hK => ?_) AllReadyH.nil
  have RM := RR.new M0; have x0 := RM.cell (k := 0) rfl; have f0 := RM.frozen 0; have x1 := RM.cell (k := 1) rfl; have f1 := RM.frozen 1; have x2 := RM.cell (k := 2) rfl; have f2 := RM.frozen 2; have x3 := RM.cell (k := 3) rfl; have f3 := RM.frozen 3
  go_simp
  refine hK.out _ _ ⟨World.cell_set (World.cell_set (World.cell_set (World.cell_set hHeld.1 (by simp)) (by simp)) (by simp)) (by simp), World.cell_set (World.cell_set (World.cell_set (World.cell_set hHeld.2 (by simp)) (by simp)) (by simp)) (by simp)⟩ (fun hHeld => ?_)
  clear hK K
  (try simp only [Act.put, List.setIfInBounds_toArray, List.set_cons_zero, List.set_cons_succ])
  refine wpAnyH_done (by kernel_rfl) ?_ _
  have k9 := (((((RR.new M0).set 0 (.slice (some ⟨b1, 0, none⟩) m c1)).set 1 (.slice (some ⟨bf, 0, none⟩) m cf)).set 2 (.slice (some ⟨bc, 0, none⟩) (m + 1) (m + 1))).set 3 (.slice (some ⟨bn, 0, none⟩) m m))
  have zM := (RR.new M0).lt
  have rows : LkRows y45 w.heap.size b1 c1 bf cf bc (m + 1) bn m L (newK F m) := ⟨by have := LkOk.newK F; rw [HF.out, ← HN.out] at this; rw [← HN.out]; exact this, by rw [← HN.out]; exact oa, by rw [← HN.out]; exact ob, by rw [← HN.out]; exact oc, by rw [← HN.out]; exact on, by omega, by omega, by omega⟩
  have rows4 := LkRows.setCell (LkRows.setCell (LkRows.setCell (LkRows.setCell (rows) (p := ⟨w.heap.size + 1, 0, none⟩) (by dsimp only; omega) (.slice (some ⟨b1, 0, none⟩) m c1)) (p := ⟨w.heap.size + 1, 1, none⟩) (by dsimp only; omega) (.slice (some ⟨bf, 0, none⟩) m cf)) (p := ⟨w.heap.size + 1, 2, none⟩) (by dsimp only; omega) (.slice (some ⟨bc, 0, none⟩) (m + 1) (m + 1))) (p := ⟨w.heap.size + 1, 3, none⟩) (by dsimp only; omega) (.slice (some ⟨bn, 0, none⟩) m m)
  go_wp2
  refine bodyPost_ret (v := .agg #[.slice (some ⟨b1, 0, none⟩) m c1, .slice (some ⟨bf, 0, none⟩) m cf, .slice (some ⟨bc, 0, none⟩) (m + 1) (m + 1), .slice (some ⟨bn, 0, none⟩) m m]) (by simp [results, Tryd.results63, go_sem, k9.cell (k := 0) rfl, k9.cell (k := 1) rfl, k9.cell (k := 2) rfl, k9.cell (k := 3) rfl]) rfl ⟨b1, c1, bf, cf, bc, bn, rfl, rows4, ?_⟩
  exact ((((N0.out.trans M0).setCell (by dsimp only; omega) _).setCell (by dsimp only; omega) _).setCell (by dsimp only; omega) _).setCell (by dsimp only; omega) _
end Go.Proofs.YtmhcnomkkjgidaaDoor
