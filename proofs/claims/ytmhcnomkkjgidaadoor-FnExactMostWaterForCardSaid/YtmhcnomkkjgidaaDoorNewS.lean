/- The model's flights: the state at first. -/
import Derived.Test.YtmhcnomkkjgidaaDoorClo
import Derived.Deep.RegionHeld3
import Derived.Deep.RegionLawGrows
import Derived.Deep.DeepCutAuto
import Derived.IntWalk
namespace Go.Proofs.YtmhcnomkkjgidaaDoor
open Go.RowKit

theorem boolOne {F : List Bool} : ∀ u ∈ F.map Value.bool, u.oneCell' = true := by
  intro u hu
  simp only [List.mem_map] at hu
  obtain ⟨z, _, rfl⟩ := hu
  rfl
theorem Ints.blk {w : World} {ao : Option Addr} {n cap : Nat} {l : List Int} (h : Ints w ao n cap l) (hn : n ≠ 0) {b : Nat} (hb : blkOf ao = some b) : b < w.heap.size := by
  obtain ⟨b', o, e, hc, hlt⟩ := h.at (j := 0) (by omega)
  subst e
  simp [blkOf] at hb
  omega

set_option maxRecDepth 100000 in
set_option maxHeartbeats 4000000 in
theorem sNew_any (w : World) (aa ab : Option Addr) (n m ca cb : Nat) (L : List Int) (F : List Bool) (h1 : Ints w aa n ca L) (h2 : Bools w ab m cb F) (hf : fliB L F = true) :
    Calls Tryd.prog 60 #[.agg #[.slice aa n ca, .slice ab m cb]] w fun e w' => ∃ B bf cf bc bn, e = .returned (.pointer (some ⟨B, 0, none⟩)) ∧ LkBox w' B aa ca bf cf bc (L.length + 1) bn L.length L (newK F L.length) ∧ (w.heap.size ≤ B ∧ w.heap.size ≤ bf ∧ w.heap.size ≤ bc ∧ w.heap.size ≤ bn) ∧ New w w' := by
  obtain ⟨hl1, hl2, _⟩ := fliB_iff.1 hf
  obtain rfl := h1.len
  obtain rfl : m = L.length := h2.len.trans hl2
  obtain ⟨n, hn⟩ : ∃ n, n = L.length := ⟨_, rfl⟩
  have h60 : 1 ≤ n := by omega
  have h61 : n ≤ 6 := by omega
  have HF := Lib.hid hl2
  rw [← hn] at h1 h2 ⊢
  have HN := Lib.hid hn
  clear hf hl1 hl2 hn
  obtain ⟨bd, rfl⟩ := h2.adr (by omega)
  have HA := Lib.hid h1; clear h1
  have HB := Lib.hid h2; clear h2
  have hmk1 := run_make_row' (P := Tryd.prog) 23 3 (.int .i64 0) 8 Tryd.underlying23 Tryd.infoInt rfl .i64 .i64 (n + 1) (by omega) (by omega)
  have hmk0 := run_make_row' (P := Tryd.prog) 23 3 (.int .i64 0) 8 Tryd.underlying23 Tryd.infoInt rfl .i64 .i64 n (by omega) (by omega)
  simp only [madeCells_eq] at hmk1 hmk0
  rw [show ((n + 1 : Nat) : Int) = (n : Int) + 1 from by omega] at hmk1
  have hw1 : IntKind.i64.wrap ((n : Int) + 1) = (n : Int) + 1 := IntWalk.i64_in _ (by omega)
  obtain ⟨i0, hi, hz0, hz1, hz2⟩ := info_parts Tryd.infoBool
  go_enter Tryd.func60, Tryd.ntmps60
  go_upto_region 2 with fail
  obtain ⟨v0, hv0⟩ : ∃ xx : World, xx = (w.alloc (.cells #[.slice aa n ca, .slice (some bd) n cb] 28)) := ⟨_, rfl⟩
  rw [← hv0]
  have N0 := Lib.hid (show New w v0 by rw [hv0]; exact (by repeat (first | with_reducible exact New.refl _ | with_reducible assumption | refine New.drewN ?_ _ | refine New.drew ?_ | refine New.alloc ?_ _ | refine New.setCell ?_ (by first | omega | (simp; omega) | (simp; done)) _ | (refine New.trans ?_ (by assumption)))))
  have b0_v0 : v0.cell? ⟨w.heap.size, 0, none⟩ = some (.slice aa n ca) := by rw [hv0]; simp [go_sem]
  have b1_v0 : v0.cell? ⟨w.heap.size, 1, none⟩ = some (.slice (some bd) n cb) := by rw [hv0]; simp [go_sem]
  have zr0 : w.heap.size < v0.heap.size := by rw [hv0]; simp
  clear hv0
  go_cut [2] (fun p W => ∃ B bf cf bc bn, p = .pointer (some ⟨B, 0, none⟩) ∧ New v0 W ∧ (v0.heap.size ≤ B ∧ v0.heap.size ≤ bf ∧ v0.heap.size ≤ bc ∧ v0.heap.size ≤ bn) ∧ LkBox W B aa ca bf cf bc (L.length + 1) bn L.length L (newK F L.length))
  case first =>
    have M0 : New v0 v0.drew := (New.refl _).drew
    refine wp_region_held_drew (S := fun w' => w'.cell? ⟨w.heap.size, 0, none⟩ = some (.slice aa n ca) ∧ w'.cell? ⟨w.heap.size, 1, none⟩ = some (.slice (some bd) n cb)) (by kernel_rfl) ⟨b0_v0, b1_v0⟩ (fun hHeld => ?_)
    obtain ⟨y0, hy0⟩ : ∃ y, y = v0.drew := ⟨_, rfl⟩
    rw [← hy0] at M0 hHeld  ⊢; clear hy0
    have sy0 := M0.size
    refine wpAnyH_take (i := 0) (oi := ⟨some 7, _, _, _, _, _⟩) (v := ?_) rfl (by kernel_rfl) (by kernel_rfl) (by kernel_rfl) (fun _ _ _ h => h) (Or.inl ⟨by rfl, ?_⟩) hHeld ?_; rotate_left; (· (intro w_ hSw; (try dsimp only at hSw); (try go_split_ands); go_simp; (try with_reducible rfl))); (try simp only [Act.put, List.setIfInBounds_toArray, List.set_cons_zero, List.set_cons_succ])
    refine wpAnyH_take (i := 1) (oi := ⟨some 8, _, _, _, _, _⟩) (v := ?_) rfl (by kernel_rfl) (by kernel_rfl) (by kernel_rfl) (fun _ _ _ h => h) (Or.inl ⟨by rfl, ?_⟩) hHeld ?_; rotate_left; (· (intro w_ hSw; (try dsimp only at hSw); (try go_split_ands); go_simp; (try with_reducible rfl))); (try simp only [Act.put, List.setIfInBounds_toArray, List.set_cons_zero, List.set_cons_succ])
    refine wpAnyH_take (i := 3) (oi := ⟨some 10, _, _, _, _, _⟩) (v := ?_) rfl (by kernel_rfl) (by kernel_rfl) (by kernel_rfl) (fun _ _ _ h => h) (Or.inl ⟨by rfl, ?_⟩) hHeld ?_; rotate_left; (· (intro w_ hSw; (try dsimp only at hSw); (try go_split_ands); go_simp; (try with_reducible rfl))); (try simp only [Act.put, List.setIfInBounds_toArray, List.set_cons_zero, List.set_cons_succ])
    refine wpAnyH_take (i := 4) (oi := ⟨some 11, _, _, _, _, _⟩) (v := ?_) rfl (by kernel_rfl) (by kernel_rfl) (by kernel_rfl) (fun _ _ _ h => h) (Or.inl ⟨by rfl, ?_⟩) hHeld ?_; rotate_left; (· (intro w_ hSw; (try dsimp only at hSw); (try go_split_ands); go_simp; (try with_reducible rfl))); (try simp only [Act.put, List.setIfInBounds_toArray, List.set_cons_zero, List.set_cons_succ])
    refine wpAnyH_take (i := 6) (oi := ⟨some 13, _, _, _, _, _⟩) (v := ?_) rfl (by kernel_rfl) (by kernel_rfl) (by kernel_rfl) (fun _ _ _ h => h) (Or.inl ⟨by rfl, ?_⟩) hHeld ?_; rotate_left; (· (intro w_ hSw; (try dsimp only at hSw); (try go_split_ands); go_simp; (try with_reducible rfl))); (try simp only [Act.put, List.setIfInBounds_toArray, List.set_cons_zero, List.set_cons_succ])
    refine wpAnyH_take (i := 7) (oi := ⟨some 14, _, _, _, _, _⟩) (v := ?_) rfl (by kernel_rfl) (by kernel_rfl) (by kernel_rfl) (fun _ _ _ h => h) (Or.inl ⟨by rfl, ?_⟩) hHeld ?_; rotate_left; (· (intro w_ hSw; (try dsimp only at hSw); (try go_split_ands); go_simp; (try with_reducible rfl))); (try simp only [Act.put, List.setIfInBounds_toArray, List.set_cons_zero, List.set_cons_succ])
    refine wpAnyH_take (i := 9) (oi := ⟨some 16, _, _, _, _, _⟩) (v := ?_) rfl (by kernel_rfl) (by kernel_rfl) (by kernel_rfl) (fun _ _ _ h => h) (Or.inl ⟨by rfl, ?_⟩) hHeld ?_; rotate_left; (· (intro w_ hSw; (try dsimp only at hSw); (try go_split_ands); go_simp; (try with_reducible rfl))); (try simp only [Act.put, List.setIfInBounds_toArray, List.set_cons_zero, List.set_cons_succ])
    refine wpAnyH_ready (rs := [2, 8, 10]) (by kernel_rfl) (by simp) ?_
    refine AllReadyH.cons (o := ⟨some 9, _, _, _, _, _⟩) rfl (fun K hK => ?_) ?_
    · skip
      go_simp
      obtain ⟨y1, hz⟩ : ∃ z, z = y0.alloc (.cells #[] 4) := ⟨_, rfl⟩
      rw [← hz]
      have n_ : New y0 y1 := by rw [hz]; exact (New.refl _).alloc _
      obtain ⟨eb, heb⟩ : ∃ z, z = y0.heap.size := ⟨_, rfl⟩
      rw [← heb]
      clear hz heb
      refine hK.out _ _ ⟨n_.cell hHeld.1, n_.cell hHeld.2⟩ (fun hHeld => ?_)
      clear hK K
      (try simp only [Act.put, List.setIfInBounds_toArray, List.set_cons_zero, List.set_cons_succ])
      have sy1 := n_.size
      replace M0 := M0.trans n_; clear n_
      refine wpAnyH_ready (rs := [5, 8, 10]) (by kernel_rfl) (by simp) ?_
      refine AllReadyH.cons (o := ⟨some 12, _, _, _, _, _⟩) rfl (fun K hK => ?_) ?_
      · skip
        refine step_append_grows (by rfl) (.tmp 9) (.tmp 11) 24 (by rfl) 4 i0 _ 1 1 Tryd.underlying24 hi hz0 hz1 hz2 rfl (by decide) (some ⟨eb, 0, none⟩) 0 0 [] (by rfl) (fun h => by cases h) rfl (fun _ _ _ _ hu => by simp at hu) bd n cb (F.map Value.bool) (by rfl) (by have := HF.out; have := HN.out; simp; omega) (HB.out.new (N0.out.trans M0)).source boolOne (by omega) (by unfold maxLen; omega) (by omega) ?_
        intro v_ y2 ho hg
        obtain ⟨qf, cf, rfl, of0⟩ := OwnBo.of_row (l := F) (by simpa using ho)
        obtain ⟨bf, rfl, pf, pf2, of_⟩ := of0.exact (by omega)
        have n_ : New y1 y2 := New.first0 hg
        clear ho hg of0
        refine hK.out _ _ ⟨n_.cell hHeld.1, n_.cell hHeld.2⟩ (fun hHeld => ?_)
        clear hK K
        (try simp only [Act.put, List.setIfInBounds_toArray, List.set_cons_zero, List.set_cons_succ])
        have sy2 := n_.size
        replace M0 := M0.trans n_; clear n_
        refine wpAnyH_ready (rs := [8, 10]) (by kernel_rfl) (by simp) ?_
        refine AllReadyH.cons (o := ⟨some 15, _, _, _, _, _⟩) rfl (fun K hK => ?_) ?_
        · skip
          go_simp
          obtain ⟨y3, hz⟩ : ∃ z, z = y2.alloc (.cells (Array.replicate (n + 1) (Value.int .i64 0)) 3) := ⟨_, rfl⟩
          rw [← hz]
          have n_ : New y2 y3 := by rw [hz]; exact (New.refl _).alloc _
          obtain ⟨bc, hb_⟩ : ∃ z, z = y2.heap.size := ⟨_, rfl⟩
          rw [← hb_]
          have oc : Own y3 bc (bc + 1) (some ⟨bc, 0, none⟩) (n + 1) (n + 1) (List.replicate (n + 1) 0) := by rw [hb_, hz, ← List.toArray_replicate]; exact zeros_own _ _ (by omega)
          have pbc : y2.heap.size ≤ bc ∧ bc < y3.heap.size := by rw [hz, hb_]; simp
          clear hz hb_
          refine hK.out _ _ ⟨n_.cell hHeld.1, n_.cell hHeld.2⟩ (fun hHeld => ?_)
          clear hK K
          (try simp only [Act.put, List.setIfInBounds_toArray, List.set_cons_zero, List.set_cons_succ])
          replace of_ := of_.new n_
          have sy3 := n_.size
          replace M0 := M0.trans n_; clear n_
          refine wpAnyH_ready (rs := [10]) (by kernel_rfl) (by simp) ?_
          refine AllReadyH.cons (o := ⟨some 17, _, _, _, _, _⟩) rfl (fun K hK => ?_) AllReadyH.nil
          go_simp
          obtain ⟨y4, hz⟩ : ∃ z, z = y3.alloc (.cells (Array.replicate (n) (Value.int .i64 0)) 3) := ⟨_, rfl⟩
          rw [← hz]
          have n_ : New y3 y4 := by rw [hz]; exact (New.refl _).alloc _
          obtain ⟨bn, hb_⟩ : ∃ z, z = y3.heap.size := ⟨_, rfl⟩
          rw [← hb_]
          have on : Own y4 bn (bn + 1) (some ⟨bn, 0, none⟩) (n) (n) (List.replicate (n) 0) := by rw [hb_, hz, ← List.toArray_replicate]; exact zeros_own _ _ (by omega)
          have pbn : y3.heap.size ≤ bn ∧ bn < y4.heap.size := by rw [hz, hb_]; simp
          clear hz hb_
          refine hK.out _ _ ⟨n_.cell hHeld.1, n_.cell hHeld.2⟩ (fun hHeld => ?_)
          clear hK K
          (try simp only [Act.put, List.setIfInBounds_toArray, List.set_cons_zero, List.set_cons_succ])
          replace of_ := of_.new n_
          replace oc := oc.new n_
          have sy4 := n_.size
          replace M0 := M0.trans n_; clear n_
          refine wpAnyH_take (i := 11) (oi := ⟨some 18, _, _, _, _, _⟩) (v := ?_) rfl (by kernel_rfl) (by kernel_rfl) (by kernel_rfl) (fun _ _ _ h => h) (Or.inl ⟨by rfl, ?_⟩) hHeld ?_; rotate_left; (· (intro w_ hSw; (try dsimp only at hSw); (try go_split_ands); go_simp; (try with_reducible rfl))); (try simp only [Act.put, List.setIfInBounds_toArray, List.set_cons_zero, List.set_cons_succ])
          refine wpAnyH_ready (rs := [12]) (by kernel_rfl) (by simp) ?_
          refine AllReadyH.cons (o := ⟨some 19, _, _, _, _, _⟩) rfl (fun K hK => ?_) AllReadyH.nil
          go_simp
          obtain ⟨y5, hz⟩ : ∃ z, z = y4.alloc (.cells #[.slice aa n ca, .slice (some ⟨bf, 0, none⟩) n cf, .slice (some ⟨bc, 0, none⟩) (n + 1) (n + 1), .slice (some ⟨bn, 0, none⟩) n n] 57) := ⟨_, rfl⟩
          rw [← hz]
          have n_ : New y4 y5 := by rw [hz]; exact (New.refl _).alloc _
          have k0 : y5.cell? ⟨y4.heap.size, 0, none⟩ = some (.slice aa n ca) := by rw [hz]; simp
          have k1 : y5.cell? ⟨y4.heap.size, 1, none⟩ = some (.slice (some ⟨bf, 0, none⟩) n cf) := by rw [hz]; simp
          have k2 : y5.cell? ⟨y4.heap.size, 2, none⟩ = some (.slice (some ⟨bc, 0, none⟩) (n + 1) (n + 1)) := by rw [hz]; simp
          have k3 : y5.cell? ⟨y4.heap.size, 3, none⟩ = some (.slice (some ⟨bn, 0, none⟩) n n) := by rw [hz]; simp
          obtain ⟨B, hb_⟩ : ∃ z, z = y4.heap.size := ⟨_, rfl⟩
          rw [← hb_] at k0 k1 k2 k3 ⊢
          have pB : y4.heap.size ≤ B := by omega
          clear hz hb_
          refine hK.out _ _ ⟨n_.cell hHeld.1, n_.cell hHeld.2⟩ (fun hHeld => ?_)
          clear hK K
          (try simp only [Act.put, List.setIfInBounds_toArray, List.set_cons_zero, List.set_cons_succ])
          replace of_ := of_.new n_
          replace oc := oc.new n_
          replace on := on.new n_
          have sy5 := n_.size
          replace M0 := M0.trans n_; clear n_
          refine wpAnyH_take (i := 13) (oi := ⟨some 2, _, _, _, _, _⟩) (v := ?_) rfl (by kernel_rfl) (by kernel_rfl) (by kernel_rfl) (fun _ _ _ h => h) (Or.inl ⟨by rfl, ?_⟩) hHeld ?_; rotate_left; (· (intro w_ hSw; (try dsimp only at hSw); (try go_split_ands); go_simp; (try with_reducible rfl))); (try simp only [Act.put, List.setIfInBounds_toArray, List.set_cons_zero, List.set_cons_succ])
          refine wpAnyH_done (by kernel_rfl) ?_ _
          go_wp2_with fail
          go_meet
          refine ⟨B, bf, cf, bc, bn, rfl, M0, ⟨by omega, by omega, by omega, by omega⟩, ?_⟩
          rw [← HN.out]
          exact ⟨by have := LkOk.newK F; rw [HF.out, ← HN.out] at this; rw [← HN.out]; exact this, by rw [← HN.out]; exact HA.out.new (N0.out.trans M0), by rw [← HN.out]; exact k0, by rw [← HN.out]; exact k1, by rw [← HN.out]; exact k2, by rw [← HN.out]; exact k3, by rw [← HN.out]; exact of_, by rw [← HN.out]; exact oc, by rw [← HN.out]; exact on, ⟨⟨by omega, by omega, by omega⟩, by omega, by omega, by omega⟩, fun b e => by have := HA.out.blk (by omega) e; omega⟩
        refine AllReadyH.cons (o := ⟨some 17, _, _, _, _, _⟩) rfl (fun K hK => ?_) AllReadyH.nil
        go_simp
        obtain ⟨y6, hz⟩ : ∃ z, z = y2.alloc (.cells (Array.replicate (n) (Value.int .i64 0)) 3) := ⟨_, rfl⟩
        rw [← hz]
        have n_ : New y2 y6 := by rw [hz]; exact (New.refl _).alloc _
        obtain ⟨bn, hb_⟩ : ∃ z, z = y2.heap.size := ⟨_, rfl⟩
        rw [← hb_]
        have on : Own y6 bn (bn + 1) (some ⟨bn, 0, none⟩) (n) (n) (List.replicate (n) 0) := by rw [hb_, hz, ← List.toArray_replicate]; exact zeros_own _ _ (by omega)
        have pbn : y2.heap.size ≤ bn ∧ bn < y6.heap.size := by rw [hz, hb_]; simp
        clear hz hb_
        refine hK.out _ _ ⟨n_.cell hHeld.1, n_.cell hHeld.2⟩ (fun hHeld => ?_)
        clear hK K
        (try simp only [Act.put, List.setIfInBounds_toArray, List.set_cons_zero, List.set_cons_succ])
        replace of_ := of_.new n_
        have sy6 := n_.size
        replace M0 := M0.trans n_; clear n_
        refine wpAnyH_ready (rs := [8]) (by kernel_rfl) (by simp) ?_
        refine AllReadyH.cons (o := ⟨some 15, _, _, _, _, _⟩) rfl (fun K hK => ?_) AllReadyH.nil
        go_simp
        obtain ⟨y7, hz⟩ : ∃ z, z = y6.alloc (.cells (Array.replicate (n + 1) (Value.int .i64 0)) 3) := ⟨_, rfl⟩
        rw [← hz]
        have n_ : New y6 y7 := by rw [hz]; exact (New.refl _).alloc _
        obtain ⟨bc, hb_⟩ : ∃ z, z = y6.heap.size := ⟨_, rfl⟩
        rw [← hb_]
        have oc : Own y7 bc (bc + 1) (some ⟨bc, 0, none⟩) (n + 1) (n + 1) (List.replicate (n + 1) 0) := by rw [hb_, hz, ← List.toArray_replicate]; exact zeros_own _ _ (by omega)
        have pbc : y6.heap.size ≤ bc ∧ bc < y7.heap.size := by rw [hz, hb_]; simp
        clear hz hb_
        refine hK.out _ _ ⟨n_.cell hHeld.1, n_.cell hHeld.2⟩ (fun hHeld => ?_)
        clear hK K
        (try simp only [Act.put, List.setIfInBounds_toArray, List.set_cons_zero, List.set_cons_succ])
        replace of_ := of_.new n_
        replace on := on.new n_
        have sy7 := n_.size
        replace M0 := M0.trans n_; clear n_
        refine wpAnyH_take (i := 11) (oi := ⟨some 18, _, _, _, _, _⟩) (v := ?_) rfl (by kernel_rfl) (by kernel_rfl) (by kernel_rfl) (fun _ _ _ h => h) (Or.inl ⟨by rfl, ?_⟩) hHeld ?_; rotate_left; (· (intro w_ hSw; (try dsimp only at hSw); (try go_split_ands); go_simp; (try with_reducible rfl))); (try simp only [Act.put, List.setIfInBounds_toArray, List.set_cons_zero, List.set_cons_succ])
        refine wpAnyH_ready (rs := [12]) (by kernel_rfl) (by simp) ?_
        refine AllReadyH.cons (o := ⟨some 19, _, _, _, _, _⟩) rfl (fun K hK => ?_) AllReadyH.nil
        go_simp
        obtain ⟨y8, hz⟩ : ∃ z, z = y7.alloc (.cells #[.slice aa n ca, .slice (some ⟨bf, 0, none⟩) n cf, .slice (some ⟨bc, 0, none⟩) (n + 1) (n + 1), .slice (some ⟨bn, 0, none⟩) n n] 57) := ⟨_, rfl⟩
        rw [← hz]
        have n_ : New y7 y8 := by rw [hz]; exact (New.refl _).alloc _
        have k0 : y8.cell? ⟨y7.heap.size, 0, none⟩ = some (.slice aa n ca) := by rw [hz]; simp
        have k1 : y8.cell? ⟨y7.heap.size, 1, none⟩ = some (.slice (some ⟨bf, 0, none⟩) n cf) := by rw [hz]; simp
        have k2 : y8.cell? ⟨y7.heap.size, 2, none⟩ = some (.slice (some ⟨bc, 0, none⟩) (n + 1) (n + 1)) := by rw [hz]; simp
        have k3 : y8.cell? ⟨y7.heap.size, 3, none⟩ = some (.slice (some ⟨bn, 0, none⟩) n n) := by rw [hz]; simp
        obtain ⟨B, hb_⟩ : ∃ z, z = y7.heap.size := ⟨_, rfl⟩
        rw [← hb_] at k0 k1 k2 k3 ⊢
        have pB : y7.heap.size ≤ B := by omega
        clear hz hb_
        refine hK.out _ _ ⟨n_.cell hHeld.1, n_.cell hHeld.2⟩ (fun hHeld => ?_)
        clear hK K
        (try simp only [Act.put, List.setIfInBounds_toArray, List.set_cons_zero, List.set_cons_succ])
        replace of_ := of_.new n_
        replace on := on.new n_
        replace oc := oc.new n_
        have sy8 := n_.size
        replace M0 := M0.trans n_; clear n_
        refine wpAnyH_take (i := 13) (oi := ⟨some 2, _, _, _, _, _⟩) (v := ?_) rfl (by kernel_rfl) (by kernel_rfl) (by kernel_rfl) (fun _ _ _ h => h) (Or.inl ⟨by rfl, ?_⟩) hHeld ?_; rotate_left; (· (intro w_ hSw; (try dsimp only at hSw); (try go_split_ands); go_simp; (try with_reducible rfl))); (try simp only [Act.put, List.setIfInBounds_toArray, List.set_cons_zero, List.set_cons_succ])
        refine wpAnyH_done (by kernel_rfl) ?_ _
        go_wp2_with fail
        go_meet
        refine ⟨B, bf, cf, bc, bn, rfl, M0, ⟨by omega, by omega, by omega, by omega⟩, ?_⟩
        rw [← HN.out]
        exact ⟨by have := LkOk.newK F; rw [HF.out, ← HN.out] at this; rw [← HN.out]; exact this, by rw [← HN.out]; exact HA.out.new (N0.out.trans M0), by rw [← HN.out]; exact k0, by rw [← HN.out]; exact k1, by rw [← HN.out]; exact k2, by rw [← HN.out]; exact k3, by rw [← HN.out]; exact of_, by rw [← HN.out]; exact oc, by rw [← HN.out]; exact on, ⟨⟨by omega, by omega, by omega⟩, by omega, by omega, by omega⟩, fun b e => by have := HA.out.blk (by omega) e; omega⟩
      refine AllReadyH.cons (o := ⟨some 15, _, _, _, _, _⟩) rfl (fun K hK => ?_) ?_
      · skip
        go_simp
        obtain ⟨y9, hz⟩ : ∃ z, z = y1.alloc (.cells (Array.replicate (n + 1) (Value.int .i64 0)) 3) := ⟨_, rfl⟩
        rw [← hz]
        have n_ : New y1 y9 := by rw [hz]; exact (New.refl _).alloc _
        obtain ⟨bc, hb_⟩ : ∃ z, z = y1.heap.size := ⟨_, rfl⟩
        rw [← hb_]
        have oc : Own y9 bc (bc + 1) (some ⟨bc, 0, none⟩) (n + 1) (n + 1) (List.replicate (n + 1) 0) := by rw [hb_, hz, ← List.toArray_replicate]; exact zeros_own _ _ (by omega)
        have pbc : y1.heap.size ≤ bc ∧ bc < y9.heap.size := by rw [hz, hb_]; simp
        clear hz hb_
        refine hK.out _ _ ⟨n_.cell hHeld.1, n_.cell hHeld.2⟩ (fun hHeld => ?_)
        clear hK K
        (try simp only [Act.put, List.setIfInBounds_toArray, List.set_cons_zero, List.set_cons_succ])
        have sy9 := n_.size
        replace M0 := M0.trans n_; clear n_
        refine wpAnyH_ready (rs := [5, 10]) (by kernel_rfl) (by simp) ?_
        refine AllReadyH.cons (o := ⟨some 12, _, _, _, _, _⟩) rfl (fun K hK => ?_) ?_
        · skip
          refine step_append_grows (by rfl) (.tmp 9) (.tmp 11) 24 (by rfl) 4 i0 _ 1 1 Tryd.underlying24 hi hz0 hz1 hz2 rfl (by decide) (some ⟨eb, 0, none⟩) 0 0 [] (by rfl) (fun h => by cases h) rfl (fun _ _ _ _ hu => by simp at hu) bd n cb (F.map Value.bool) (by rfl) (by have := HF.out; have := HN.out; simp; omega) (HB.out.new (N0.out.trans M0)).source boolOne (by omega) (by unfold maxLen; omega) (by omega) ?_
          intro v_ y10 ho hg
          obtain ⟨qf, cf, rfl, of0⟩ := OwnBo.of_row (l := F) (by simpa using ho)
          obtain ⟨bf, rfl, pf, pf2, of_⟩ := of0.exact (by omega)
          have n_ : New y9 y10 := New.first0 hg
          clear ho hg of0
          refine hK.out _ _ ⟨n_.cell hHeld.1, n_.cell hHeld.2⟩ (fun hHeld => ?_)
          clear hK K
          (try simp only [Act.put, List.setIfInBounds_toArray, List.set_cons_zero, List.set_cons_succ])
          replace oc := oc.new n_
          have sy10 := n_.size
          replace M0 := M0.trans n_; clear n_
          refine wpAnyH_ready (rs := [10]) (by kernel_rfl) (by simp) ?_
          refine AllReadyH.cons (o := ⟨some 17, _, _, _, _, _⟩) rfl (fun K hK => ?_) AllReadyH.nil
          go_simp
          obtain ⟨y11, hz⟩ : ∃ z, z = y10.alloc (.cells (Array.replicate (n) (Value.int .i64 0)) 3) := ⟨_, rfl⟩
          rw [← hz]
          have n_ : New y10 y11 := by rw [hz]; exact (New.refl _).alloc _
          obtain ⟨bn, hb_⟩ : ∃ z, z = y10.heap.size := ⟨_, rfl⟩
          rw [← hb_]
          have on : Own y11 bn (bn + 1) (some ⟨bn, 0, none⟩) (n) (n) (List.replicate (n) 0) := by rw [hb_, hz, ← List.toArray_replicate]; exact zeros_own _ _ (by omega)
          have pbn : y10.heap.size ≤ bn ∧ bn < y11.heap.size := by rw [hz, hb_]; simp
          clear hz hb_
          refine hK.out _ _ ⟨n_.cell hHeld.1, n_.cell hHeld.2⟩ (fun hHeld => ?_)
          clear hK K
          (try simp only [Act.put, List.setIfInBounds_toArray, List.set_cons_zero, List.set_cons_succ])
          replace oc := oc.new n_
          replace of_ := of_.new n_
          have sy11 := n_.size
          replace M0 := M0.trans n_; clear n_
          refine wpAnyH_take (i := 11) (oi := ⟨some 18, _, _, _, _, _⟩) (v := ?_) rfl (by kernel_rfl) (by kernel_rfl) (by kernel_rfl) (fun _ _ _ h => h) (Or.inl ⟨by rfl, ?_⟩) hHeld ?_; rotate_left; (· (intro w_ hSw; (try dsimp only at hSw); (try go_split_ands); go_simp; (try with_reducible rfl))); (try simp only [Act.put, List.setIfInBounds_toArray, List.set_cons_zero, List.set_cons_succ])
          refine wpAnyH_ready (rs := [12]) (by kernel_rfl) (by simp) ?_
          refine AllReadyH.cons (o := ⟨some 19, _, _, _, _, _⟩) rfl (fun K hK => ?_) AllReadyH.nil
          go_simp
          obtain ⟨y12, hz⟩ : ∃ z, z = y11.alloc (.cells #[.slice aa n ca, .slice (some ⟨bf, 0, none⟩) n cf, .slice (some ⟨bc, 0, none⟩) (n + 1) (n + 1), .slice (some ⟨bn, 0, none⟩) n n] 57) := ⟨_, rfl⟩
          rw [← hz]
          have n_ : New y11 y12 := by rw [hz]; exact (New.refl _).alloc _
          have k0 : y12.cell? ⟨y11.heap.size, 0, none⟩ = some (.slice aa n ca) := by rw [hz]; simp
          have k1 : y12.cell? ⟨y11.heap.size, 1, none⟩ = some (.slice (some ⟨bf, 0, none⟩) n cf) := by rw [hz]; simp
          have k2 : y12.cell? ⟨y11.heap.size, 2, none⟩ = some (.slice (some ⟨bc, 0, none⟩) (n + 1) (n + 1)) := by rw [hz]; simp
          have k3 : y12.cell? ⟨y11.heap.size, 3, none⟩ = some (.slice (some ⟨bn, 0, none⟩) n n) := by rw [hz]; simp
          obtain ⟨B, hb_⟩ : ∃ z, z = y11.heap.size := ⟨_, rfl⟩
          rw [← hb_] at k0 k1 k2 k3 ⊢
          have pB : y11.heap.size ≤ B := by omega
          clear hz hb_
          refine hK.out _ _ ⟨n_.cell hHeld.1, n_.cell hHeld.2⟩ (fun hHeld => ?_)
          clear hK K
          (try simp only [Act.put, List.setIfInBounds_toArray, List.set_cons_zero, List.set_cons_succ])
          replace oc := oc.new n_
          replace of_ := of_.new n_
          replace on := on.new n_
          have sy12 := n_.size
          replace M0 := M0.trans n_; clear n_
          refine wpAnyH_take (i := 13) (oi := ⟨some 2, _, _, _, _, _⟩) (v := ?_) rfl (by kernel_rfl) (by kernel_rfl) (by kernel_rfl) (fun _ _ _ h => h) (Or.inl ⟨by rfl, ?_⟩) hHeld ?_; rotate_left; (· (intro w_ hSw; (try dsimp only at hSw); (try go_split_ands); go_simp; (try with_reducible rfl))); (try simp only [Act.put, List.setIfInBounds_toArray, List.set_cons_zero, List.set_cons_succ])
          refine wpAnyH_done (by kernel_rfl) ?_ _
          go_wp2_with fail
          go_meet
          refine ⟨B, bf, cf, bc, bn, rfl, M0, ⟨by omega, by omega, by omega, by omega⟩, ?_⟩
          rw [← HN.out]
          exact ⟨by have := LkOk.newK F; rw [HF.out, ← HN.out] at this; rw [← HN.out]; exact this, by rw [← HN.out]; exact HA.out.new (N0.out.trans M0), by rw [← HN.out]; exact k0, by rw [← HN.out]; exact k1, by rw [← HN.out]; exact k2, by rw [← HN.out]; exact k3, by rw [← HN.out]; exact of_, by rw [← HN.out]; exact oc, by rw [← HN.out]; exact on, ⟨⟨by omega, by omega, by omega⟩, by omega, by omega, by omega⟩, fun b e => by have := HA.out.blk (by omega) e; omega⟩
        refine AllReadyH.cons (o := ⟨some 17, _, _, _, _, _⟩) rfl (fun K hK => ?_) AllReadyH.nil
        go_simp
        obtain ⟨y13, hz⟩ : ∃ z, z = y9.alloc (.cells (Array.replicate (n) (Value.int .i64 0)) 3) := ⟨_, rfl⟩
        rw [← hz]
        have n_ : New y9 y13 := by rw [hz]; exact (New.refl _).alloc _
        obtain ⟨bn, hb_⟩ : ∃ z, z = y9.heap.size := ⟨_, rfl⟩
        rw [← hb_]
        have on : Own y13 bn (bn + 1) (some ⟨bn, 0, none⟩) (n) (n) (List.replicate (n) 0) := by rw [hb_, hz, ← List.toArray_replicate]; exact zeros_own _ _ (by omega)
        have pbn : y9.heap.size ≤ bn ∧ bn < y13.heap.size := by rw [hz, hb_]; simp
        clear hz hb_
        refine hK.out _ _ ⟨n_.cell hHeld.1, n_.cell hHeld.2⟩ (fun hHeld => ?_)
        clear hK K
        (try simp only [Act.put, List.setIfInBounds_toArray, List.set_cons_zero, List.set_cons_succ])
        replace oc := oc.new n_
        have sy13 := n_.size
        replace M0 := M0.trans n_; clear n_
        refine wpAnyH_ready (rs := [5]) (by kernel_rfl) (by simp) ?_
        refine AllReadyH.cons (o := ⟨some 12, _, _, _, _, _⟩) rfl (fun K hK => ?_) AllReadyH.nil
        refine step_append_grows (by rfl) (.tmp 9) (.tmp 11) 24 (by rfl) 4 i0 _ 1 1 Tryd.underlying24 hi hz0 hz1 hz2 rfl (by decide) (some ⟨eb, 0, none⟩) 0 0 [] (by rfl) (fun h => by cases h) rfl (fun _ _ _ _ hu => by simp at hu) bd n cb (F.map Value.bool) (by rfl) (by have := HF.out; have := HN.out; simp; omega) (HB.out.new (N0.out.trans M0)).source boolOne (by omega) (by unfold maxLen; omega) (by omega) ?_
        intro v_ y14 ho hg
        obtain ⟨qf, cf, rfl, of0⟩ := OwnBo.of_row (l := F) (by simpa using ho)
        obtain ⟨bf, rfl, pf, pf2, of_⟩ := of0.exact (by omega)
        have n_ : New y13 y14 := New.first0 hg
        clear ho hg of0
        refine hK.out _ _ ⟨n_.cell hHeld.1, n_.cell hHeld.2⟩ (fun hHeld => ?_)
        clear hK K
        (try simp only [Act.put, List.setIfInBounds_toArray, List.set_cons_zero, List.set_cons_succ])
        replace oc := oc.new n_
        replace on := on.new n_
        have sy14 := n_.size
        replace M0 := M0.trans n_; clear n_
        refine wpAnyH_take (i := 11) (oi := ⟨some 18, _, _, _, _, _⟩) (v := ?_) rfl (by kernel_rfl) (by kernel_rfl) (by kernel_rfl) (fun _ _ _ h => h) (Or.inl ⟨by rfl, ?_⟩) hHeld ?_; rotate_left; (· (intro w_ hSw; (try dsimp only at hSw); (try go_split_ands); go_simp; (try with_reducible rfl))); (try simp only [Act.put, List.setIfInBounds_toArray, List.set_cons_zero, List.set_cons_succ])
        refine wpAnyH_ready (rs := [12]) (by kernel_rfl) (by simp) ?_
        refine AllReadyH.cons (o := ⟨some 19, _, _, _, _, _⟩) rfl (fun K hK => ?_) AllReadyH.nil
        go_simp
        obtain ⟨y15, hz⟩ : ∃ z, z = y14.alloc (.cells #[.slice aa n ca, .slice (some ⟨bf, 0, none⟩) n cf, .slice (some ⟨bc, 0, none⟩) (n + 1) (n + 1), .slice (some ⟨bn, 0, none⟩) n n] 57) := ⟨_, rfl⟩
        rw [← hz]
        have n_ : New y14 y15 := by rw [hz]; exact (New.refl _).alloc _
        have k0 : y15.cell? ⟨y14.heap.size, 0, none⟩ = some (.slice aa n ca) := by rw [hz]; simp
        have k1 : y15.cell? ⟨y14.heap.size, 1, none⟩ = some (.slice (some ⟨bf, 0, none⟩) n cf) := by rw [hz]; simp
        have k2 : y15.cell? ⟨y14.heap.size, 2, none⟩ = some (.slice (some ⟨bc, 0, none⟩) (n + 1) (n + 1)) := by rw [hz]; simp
        have k3 : y15.cell? ⟨y14.heap.size, 3, none⟩ = some (.slice (some ⟨bn, 0, none⟩) n n) := by rw [hz]; simp
        obtain ⟨B, hb_⟩ : ∃ z, z = y14.heap.size := ⟨_, rfl⟩
        rw [← hb_] at k0 k1 k2 k3 ⊢
        have pB : y14.heap.size ≤ B := by omega
        clear hz hb_
        refine hK.out _ _ ⟨n_.cell hHeld.1, n_.cell hHeld.2⟩ (fun hHeld => ?_)
        clear hK K
        (try simp only [Act.put, List.setIfInBounds_toArray, List.set_cons_zero, List.set_cons_succ])
        replace oc := oc.new n_
        replace on := on.new n_
        replace of_ := of_.new n_
        have sy15 := n_.size
        replace M0 := M0.trans n_; clear n_
        refine wpAnyH_take (i := 13) (oi := ⟨some 2, _, _, _, _, _⟩) (v := ?_) rfl (by kernel_rfl) (by kernel_rfl) (by kernel_rfl) (fun _ _ _ h => h) (Or.inl ⟨by rfl, ?_⟩) hHeld ?_; rotate_left; (· (intro w_ hSw; (try dsimp only at hSw); (try go_split_ands); go_simp; (try with_reducible rfl))); (try simp only [Act.put, List.setIfInBounds_toArray, List.set_cons_zero, List.set_cons_succ])
        refine wpAnyH_done (by kernel_rfl) ?_ _
        go_wp2_with fail
        go_meet
        refine ⟨B, bf, cf, bc, bn, rfl, M0, ⟨by omega, by omega, by omega, by omega⟩, ?_⟩
        rw [← HN.out]
        exact ⟨by have := LkOk.newK F; rw [HF.out, ← HN.out] at this; rw [← HN.out]; exact this, by rw [← HN.out]; exact HA.out.new (N0.out.trans M0), by rw [← HN.out]; exact k0, by rw [← HN.out]; exact k1, by rw [← HN.out]; exact k2, by rw [← HN.out]; exact k3, by rw [← HN.out]; exact of_, by rw [← HN.out]; exact oc, by rw [← HN.out]; exact on, ⟨⟨by omega, by omega, by omega⟩, by omega, by omega, by omega⟩, fun b e => by have := HA.out.blk (by omega) e; omega⟩
      refine AllReadyH.cons (o := ⟨some 17, _, _, _, _, _⟩) rfl (fun K hK => ?_) AllReadyH.nil
      go_simp
      obtain ⟨y16, hz⟩ : ∃ z, z = y1.alloc (.cells (Array.replicate (n) (Value.int .i64 0)) 3) := ⟨_, rfl⟩
      rw [← hz]
      have n_ : New y1 y16 := by rw [hz]; exact (New.refl _).alloc _
      obtain ⟨bn, hb_⟩ : ∃ z, z = y1.heap.size := ⟨_, rfl⟩
      rw [← hb_]
      have on : Own y16 bn (bn + 1) (some ⟨bn, 0, none⟩) (n) (n) (List.replicate (n) 0) := by rw [hb_, hz, ← List.toArray_replicate]; exact zeros_own _ _ (by omega)
      have pbn : y1.heap.size ≤ bn ∧ bn < y16.heap.size := by rw [hz, hb_]; simp
      clear hz hb_
      refine hK.out _ _ ⟨n_.cell hHeld.1, n_.cell hHeld.2⟩ (fun hHeld => ?_)
      clear hK K
      (try simp only [Act.put, List.setIfInBounds_toArray, List.set_cons_zero, List.set_cons_succ])
      have sy16 := n_.size
      replace M0 := M0.trans n_; clear n_
      refine wpAnyH_ready (rs := [5, 8]) (by kernel_rfl) (by simp) ?_
      refine AllReadyH.cons (o := ⟨some 12, _, _, _, _, _⟩) rfl (fun K hK => ?_) ?_
      · skip
        refine step_append_grows (by rfl) (.tmp 9) (.tmp 11) 24 (by rfl) 4 i0 _ 1 1 Tryd.underlying24 hi hz0 hz1 hz2 rfl (by decide) (some ⟨eb, 0, none⟩) 0 0 [] (by rfl) (fun h => by cases h) rfl (fun _ _ _ _ hu => by simp at hu) bd n cb (F.map Value.bool) (by rfl) (by have := HF.out; have := HN.out; simp; omega) (HB.out.new (N0.out.trans M0)).source boolOne (by omega) (by unfold maxLen; omega) (by omega) ?_
        intro v_ y17 ho hg
        obtain ⟨qf, cf, rfl, of0⟩ := OwnBo.of_row (l := F) (by simpa using ho)
        obtain ⟨bf, rfl, pf, pf2, of_⟩ := of0.exact (by omega)
        have n_ : New y16 y17 := New.first0 hg
        clear ho hg of0
        refine hK.out _ _ ⟨n_.cell hHeld.1, n_.cell hHeld.2⟩ (fun hHeld => ?_)
        clear hK K
        (try simp only [Act.put, List.setIfInBounds_toArray, List.set_cons_zero, List.set_cons_succ])
        replace on := on.new n_
        have sy17 := n_.size
        replace M0 := M0.trans n_; clear n_
        refine wpAnyH_ready (rs := [8]) (by kernel_rfl) (by simp) ?_
        refine AllReadyH.cons (o := ⟨some 15, _, _, _, _, _⟩) rfl (fun K hK => ?_) AllReadyH.nil
        go_simp
        obtain ⟨y18, hz⟩ : ∃ z, z = y17.alloc (.cells (Array.replicate (n + 1) (Value.int .i64 0)) 3) := ⟨_, rfl⟩
        rw [← hz]
        have n_ : New y17 y18 := by rw [hz]; exact (New.refl _).alloc _
        obtain ⟨bc, hb_⟩ : ∃ z, z = y17.heap.size := ⟨_, rfl⟩
        rw [← hb_]
        have oc : Own y18 bc (bc + 1) (some ⟨bc, 0, none⟩) (n + 1) (n + 1) (List.replicate (n + 1) 0) := by rw [hb_, hz, ← List.toArray_replicate]; exact zeros_own _ _ (by omega)
        have pbc : y17.heap.size ≤ bc ∧ bc < y18.heap.size := by rw [hz, hb_]; simp
        clear hz hb_
        refine hK.out _ _ ⟨n_.cell hHeld.1, n_.cell hHeld.2⟩ (fun hHeld => ?_)
        clear hK K
        (try simp only [Act.put, List.setIfInBounds_toArray, List.set_cons_zero, List.set_cons_succ])
        replace on := on.new n_
        replace of_ := of_.new n_
        have sy18 := n_.size
        replace M0 := M0.trans n_; clear n_
        refine wpAnyH_take (i := 11) (oi := ⟨some 18, _, _, _, _, _⟩) (v := ?_) rfl (by kernel_rfl) (by kernel_rfl) (by kernel_rfl) (fun _ _ _ h => h) (Or.inl ⟨by rfl, ?_⟩) hHeld ?_; rotate_left; (· (intro w_ hSw; (try dsimp only at hSw); (try go_split_ands); go_simp; (try with_reducible rfl))); (try simp only [Act.put, List.setIfInBounds_toArray, List.set_cons_zero, List.set_cons_succ])
        refine wpAnyH_ready (rs := [12]) (by kernel_rfl) (by simp) ?_
        refine AllReadyH.cons (o := ⟨some 19, _, _, _, _, _⟩) rfl (fun K hK => ?_) AllReadyH.nil
        go_simp
        obtain ⟨y19, hz⟩ : ∃ z, z = y18.alloc (.cells #[.slice aa n ca, .slice (some ⟨bf, 0, none⟩) n cf, .slice (some ⟨bc, 0, none⟩) (n + 1) (n + 1), .slice (some ⟨bn, 0, none⟩) n n] 57) := ⟨_, rfl⟩
        rw [← hz]
        have n_ : New y18 y19 := by rw [hz]; exact (New.refl _).alloc _
        have k0 : y19.cell? ⟨y18.heap.size, 0, none⟩ = some (.slice aa n ca) := by rw [hz]; simp
        have k1 : y19.cell? ⟨y18.heap.size, 1, none⟩ = some (.slice (some ⟨bf, 0, none⟩) n cf) := by rw [hz]; simp
        have k2 : y19.cell? ⟨y18.heap.size, 2, none⟩ = some (.slice (some ⟨bc, 0, none⟩) (n + 1) (n + 1)) := by rw [hz]; simp
        have k3 : y19.cell? ⟨y18.heap.size, 3, none⟩ = some (.slice (some ⟨bn, 0, none⟩) n n) := by rw [hz]; simp
        obtain ⟨B, hb_⟩ : ∃ z, z = y18.heap.size := ⟨_, rfl⟩
        rw [← hb_] at k0 k1 k2 k3 ⊢
        have pB : y18.heap.size ≤ B := by omega
        clear hz hb_
        refine hK.out _ _ ⟨n_.cell hHeld.1, n_.cell hHeld.2⟩ (fun hHeld => ?_)
        clear hK K
        (try simp only [Act.put, List.setIfInBounds_toArray, List.set_cons_zero, List.set_cons_succ])
        replace on := on.new n_
        replace of_ := of_.new n_
        replace oc := oc.new n_
        have sy19 := n_.size
        replace M0 := M0.trans n_; clear n_
        refine wpAnyH_take (i := 13) (oi := ⟨some 2, _, _, _, _, _⟩) (v := ?_) rfl (by kernel_rfl) (by kernel_rfl) (by kernel_rfl) (fun _ _ _ h => h) (Or.inl ⟨by rfl, ?_⟩) hHeld ?_; rotate_left; (· (intro w_ hSw; (try dsimp only at hSw); (try go_split_ands); go_simp; (try with_reducible rfl))); (try simp only [Act.put, List.setIfInBounds_toArray, List.set_cons_zero, List.set_cons_succ])
        refine wpAnyH_done (by kernel_rfl) ?_ _
        go_wp2_with fail
        go_meet
        refine ⟨B, bf, cf, bc, bn, rfl, M0, ⟨by omega, by omega, by omega, by omega⟩, ?_⟩
        rw [← HN.out]
        exact ⟨by have := LkOk.newK F; rw [HF.out, ← HN.out] at this; rw [← HN.out]; exact this, by rw [← HN.out]; exact HA.out.new (N0.out.trans M0), by rw [← HN.out]; exact k0, by rw [← HN.out]; exact k1, by rw [← HN.out]; exact k2, by rw [← HN.out]; exact k3, by rw [← HN.out]; exact of_, by rw [← HN.out]; exact oc, by rw [← HN.out]; exact on, ⟨⟨by omega, by omega, by omega⟩, by omega, by omega, by omega⟩, fun b e => by have := HA.out.blk (by omega) e; omega⟩
      refine AllReadyH.cons (o := ⟨some 15, _, _, _, _, _⟩) rfl (fun K hK => ?_) AllReadyH.nil
      go_simp
      obtain ⟨y20, hz⟩ : ∃ z, z = y16.alloc (.cells (Array.replicate (n + 1) (Value.int .i64 0)) 3) := ⟨_, rfl⟩
      rw [← hz]
      have n_ : New y16 y20 := by rw [hz]; exact (New.refl _).alloc _
      obtain ⟨bc, hb_⟩ : ∃ z, z = y16.heap.size := ⟨_, rfl⟩
      rw [← hb_]
      have oc : Own y20 bc (bc + 1) (some ⟨bc, 0, none⟩) (n + 1) (n + 1) (List.replicate (n + 1) 0) := by rw [hb_, hz, ← List.toArray_replicate]; exact zeros_own _ _ (by omega)
      have pbc : y16.heap.size ≤ bc ∧ bc < y20.heap.size := by rw [hz, hb_]; simp
      clear hz hb_
      refine hK.out _ _ ⟨n_.cell hHeld.1, n_.cell hHeld.2⟩ (fun hHeld => ?_)
      clear hK K
      (try simp only [Act.put, List.setIfInBounds_toArray, List.set_cons_zero, List.set_cons_succ])
      replace on := on.new n_
      have sy20 := n_.size
      replace M0 := M0.trans n_; clear n_
      refine wpAnyH_ready (rs := [5]) (by kernel_rfl) (by simp) ?_
      refine AllReadyH.cons (o := ⟨some 12, _, _, _, _, _⟩) rfl (fun K hK => ?_) AllReadyH.nil
      refine step_append_grows (by rfl) (.tmp 9) (.tmp 11) 24 (by rfl) 4 i0 _ 1 1 Tryd.underlying24 hi hz0 hz1 hz2 rfl (by decide) (some ⟨eb, 0, none⟩) 0 0 [] (by rfl) (fun h => by cases h) rfl (fun _ _ _ _ hu => by simp at hu) bd n cb (F.map Value.bool) (by rfl) (by have := HF.out; have := HN.out; simp; omega) (HB.out.new (N0.out.trans M0)).source boolOne (by omega) (by unfold maxLen; omega) (by omega) ?_
      intro v_ y21 ho hg
      obtain ⟨qf, cf, rfl, of0⟩ := OwnBo.of_row (l := F) (by simpa using ho)
      obtain ⟨bf, rfl, pf, pf2, of_⟩ := of0.exact (by omega)
      have n_ : New y20 y21 := New.first0 hg
      clear ho hg of0
      refine hK.out _ _ ⟨n_.cell hHeld.1, n_.cell hHeld.2⟩ (fun hHeld => ?_)
      clear hK K
      (try simp only [Act.put, List.setIfInBounds_toArray, List.set_cons_zero, List.set_cons_succ])
      replace on := on.new n_
      replace oc := oc.new n_
      have sy21 := n_.size
      replace M0 := M0.trans n_; clear n_
      refine wpAnyH_take (i := 11) (oi := ⟨some 18, _, _, _, _, _⟩) (v := ?_) rfl (by kernel_rfl) (by kernel_rfl) (by kernel_rfl) (fun _ _ _ h => h) (Or.inl ⟨by rfl, ?_⟩) hHeld ?_; rotate_left; (· (intro w_ hSw; (try dsimp only at hSw); (try go_split_ands); go_simp; (try with_reducible rfl))); (try simp only [Act.put, List.setIfInBounds_toArray, List.set_cons_zero, List.set_cons_succ])
      refine wpAnyH_ready (rs := [12]) (by kernel_rfl) (by simp) ?_
      refine AllReadyH.cons (o := ⟨some 19, _, _, _, _, _⟩) rfl (fun K hK => ?_) AllReadyH.nil
      go_simp
      obtain ⟨y22, hz⟩ : ∃ z, z = y21.alloc (.cells #[.slice aa n ca, .slice (some ⟨bf, 0, none⟩) n cf, .slice (some ⟨bc, 0, none⟩) (n + 1) (n + 1), .slice (some ⟨bn, 0, none⟩) n n] 57) := ⟨_, rfl⟩
      rw [← hz]
      have n_ : New y21 y22 := by rw [hz]; exact (New.refl _).alloc _
      have k0 : y22.cell? ⟨y21.heap.size, 0, none⟩ = some (.slice aa n ca) := by rw [hz]; simp
      have k1 : y22.cell? ⟨y21.heap.size, 1, none⟩ = some (.slice (some ⟨bf, 0, none⟩) n cf) := by rw [hz]; simp
      have k2 : y22.cell? ⟨y21.heap.size, 2, none⟩ = some (.slice (some ⟨bc, 0, none⟩) (n + 1) (n + 1)) := by rw [hz]; simp
      have k3 : y22.cell? ⟨y21.heap.size, 3, none⟩ = some (.slice (some ⟨bn, 0, none⟩) n n) := by rw [hz]; simp
      obtain ⟨B, hb_⟩ : ∃ z, z = y21.heap.size := ⟨_, rfl⟩
      rw [← hb_] at k0 k1 k2 k3 ⊢
      have pB : y21.heap.size ≤ B := by omega
      clear hz hb_
      refine hK.out _ _ ⟨n_.cell hHeld.1, n_.cell hHeld.2⟩ (fun hHeld => ?_)
      clear hK K
      (try simp only [Act.put, List.setIfInBounds_toArray, List.set_cons_zero, List.set_cons_succ])
      replace on := on.new n_
      replace oc := oc.new n_
      replace of_ := of_.new n_
      have sy22 := n_.size
      replace M0 := M0.trans n_; clear n_
      refine wpAnyH_take (i := 13) (oi := ⟨some 2, _, _, _, _, _⟩) (v := ?_) rfl (by kernel_rfl) (by kernel_rfl) (by kernel_rfl) (fun _ _ _ h => h) (Or.inl ⟨by rfl, ?_⟩) hHeld ?_; rotate_left; (· (intro w_ hSw; (try dsimp only at hSw); (try go_split_ands); go_simp; (try with_reducible rfl))); (try simp only [Act.put, List.setIfInBounds_toArray, List.set_cons_zero, List.set_cons_succ])
      refine wpAnyH_done (by kernel_rfl) ?_ _
      go_wp2_with fail
      go_meet
      refine ⟨B, bf, cf, bc, bn, rfl, M0, ⟨by omega, by omega, by omega, by omega⟩, ?_⟩
      rw [← HN.out]
      exact ⟨by have := LkOk.newK F; rw [HF.out, ← HN.out] at this; rw [← HN.out]; exact this, by rw [← HN.out]; exact HA.out.new (N0.out.trans M0), by rw [← HN.out]; exact k0, by rw [← HN.out]; exact k1, by rw [← HN.out]; exact k2, by rw [← HN.out]; exact k3, by rw [← HN.out]; exact of_, by rw [← HN.out]; exact oc, by rw [← HN.out]; exact on, ⟨⟨by omega, by omega, by omega⟩, by omega, by omega, by omega⟩, fun b e => by have := HA.out.blk (by omega) e; omega⟩
    refine AllReadyH.cons (o := ⟨some 15, _, _, _, _, _⟩) rfl (fun K hK => ?_) ?_
    · skip
      go_simp
      obtain ⟨y23, hz⟩ : ∃ z, z = y0.alloc (.cells (Array.replicate (n + 1) (Value.int .i64 0)) 3) := ⟨_, rfl⟩
      rw [← hz]
      have n_ : New y0 y23 := by rw [hz]; exact (New.refl _).alloc _
      obtain ⟨bc, hb_⟩ : ∃ z, z = y0.heap.size := ⟨_, rfl⟩
      rw [← hb_]
      have oc : Own y23 bc (bc + 1) (some ⟨bc, 0, none⟩) (n + 1) (n + 1) (List.replicate (n + 1) 0) := by rw [hb_, hz, ← List.toArray_replicate]; exact zeros_own _ _ (by omega)
      have pbc : y0.heap.size ≤ bc ∧ bc < y23.heap.size := by rw [hz, hb_]; simp
      clear hz hb_
      refine hK.out _ _ ⟨n_.cell hHeld.1, n_.cell hHeld.2⟩ (fun hHeld => ?_)
      clear hK K
      (try simp only [Act.put, List.setIfInBounds_toArray, List.set_cons_zero, List.set_cons_succ])
      have sy23 := n_.size
      replace M0 := M0.trans n_; clear n_
      refine wpAnyH_ready (rs := [2, 10]) (by kernel_rfl) (by simp) ?_
      refine AllReadyH.cons (o := ⟨some 9, _, _, _, _, _⟩) rfl (fun K hK => ?_) ?_
      · skip
        go_simp
        obtain ⟨y24, hz⟩ : ∃ z, z = y23.alloc (.cells #[] 4) := ⟨_, rfl⟩
        rw [← hz]
        have n_ : New y23 y24 := by rw [hz]; exact (New.refl _).alloc _
        obtain ⟨eb, heb⟩ : ∃ z, z = y23.heap.size := ⟨_, rfl⟩
        rw [← heb]
        clear hz heb
        refine hK.out _ _ ⟨n_.cell hHeld.1, n_.cell hHeld.2⟩ (fun hHeld => ?_)
        clear hK K
        (try simp only [Act.put, List.setIfInBounds_toArray, List.set_cons_zero, List.set_cons_succ])
        replace oc := oc.new n_
        have sy24 := n_.size
        replace M0 := M0.trans n_; clear n_
        refine wpAnyH_ready (rs := [5, 10]) (by kernel_rfl) (by simp) ?_
        refine AllReadyH.cons (o := ⟨some 12, _, _, _, _, _⟩) rfl (fun K hK => ?_) ?_
        · skip
          refine step_append_grows (by rfl) (.tmp 9) (.tmp 11) 24 (by rfl) 4 i0 _ 1 1 Tryd.underlying24 hi hz0 hz1 hz2 rfl (by decide) (some ⟨eb, 0, none⟩) 0 0 [] (by rfl) (fun h => by cases h) rfl (fun _ _ _ _ hu => by simp at hu) bd n cb (F.map Value.bool) (by rfl) (by have := HF.out; have := HN.out; simp; omega) (HB.out.new (N0.out.trans M0)).source boolOne (by omega) (by unfold maxLen; omega) (by omega) ?_
          intro v_ y25 ho hg
          obtain ⟨qf, cf, rfl, of0⟩ := OwnBo.of_row (l := F) (by simpa using ho)
          obtain ⟨bf, rfl, pf, pf2, of_⟩ := of0.exact (by omega)
          have n_ : New y24 y25 := New.first0 hg
          clear ho hg of0
          refine hK.out _ _ ⟨n_.cell hHeld.1, n_.cell hHeld.2⟩ (fun hHeld => ?_)
          clear hK K
          (try simp only [Act.put, List.setIfInBounds_toArray, List.set_cons_zero, List.set_cons_succ])
          replace oc := oc.new n_
          have sy25 := n_.size
          replace M0 := M0.trans n_; clear n_
          refine wpAnyH_ready (rs := [10]) (by kernel_rfl) (by simp) ?_
          refine AllReadyH.cons (o := ⟨some 17, _, _, _, _, _⟩) rfl (fun K hK => ?_) AllReadyH.nil
          go_simp
          obtain ⟨y26, hz⟩ : ∃ z, z = y25.alloc (.cells (Array.replicate (n) (Value.int .i64 0)) 3) := ⟨_, rfl⟩
          rw [← hz]
          have n_ : New y25 y26 := by rw [hz]; exact (New.refl _).alloc _
          obtain ⟨bn, hb_⟩ : ∃ z, z = y25.heap.size := ⟨_, rfl⟩
          rw [← hb_]
          have on : Own y26 bn (bn + 1) (some ⟨bn, 0, none⟩) (n) (n) (List.replicate (n) 0) := by rw [hb_, hz, ← List.toArray_replicate]; exact zeros_own _ _ (by omega)
          have pbn : y25.heap.size ≤ bn ∧ bn < y26.heap.size := by rw [hz, hb_]; simp
          clear hz hb_
          refine hK.out _ _ ⟨n_.cell hHeld.1, n_.cell hHeld.2⟩ (fun hHeld => ?_)
          clear hK K
          (try simp only [Act.put, List.setIfInBounds_toArray, List.set_cons_zero, List.set_cons_succ])
          replace oc := oc.new n_
          replace of_ := of_.new n_
          have sy26 := n_.size
          replace M0 := M0.trans n_; clear n_
          refine wpAnyH_take (i := 11) (oi := ⟨some 18, _, _, _, _, _⟩) (v := ?_) rfl (by kernel_rfl) (by kernel_rfl) (by kernel_rfl) (fun _ _ _ h => h) (Or.inl ⟨by rfl, ?_⟩) hHeld ?_; rotate_left; (· (intro w_ hSw; (try dsimp only at hSw); (try go_split_ands); go_simp; (try with_reducible rfl))); (try simp only [Act.put, List.setIfInBounds_toArray, List.set_cons_zero, List.set_cons_succ])
          refine wpAnyH_ready (rs := [12]) (by kernel_rfl) (by simp) ?_
          refine AllReadyH.cons (o := ⟨some 19, _, _, _, _, _⟩) rfl (fun K hK => ?_) AllReadyH.nil
          go_simp
          obtain ⟨y27, hz⟩ : ∃ z, z = y26.alloc (.cells #[.slice aa n ca, .slice (some ⟨bf, 0, none⟩) n cf, .slice (some ⟨bc, 0, none⟩) (n + 1) (n + 1), .slice (some ⟨bn, 0, none⟩) n n] 57) := ⟨_, rfl⟩
          rw [← hz]
          have n_ : New y26 y27 := by rw [hz]; exact (New.refl _).alloc _
          have k0 : y27.cell? ⟨y26.heap.size, 0, none⟩ = some (.slice aa n ca) := by rw [hz]; simp
          have k1 : y27.cell? ⟨y26.heap.size, 1, none⟩ = some (.slice (some ⟨bf, 0, none⟩) n cf) := by rw [hz]; simp
          have k2 : y27.cell? ⟨y26.heap.size, 2, none⟩ = some (.slice (some ⟨bc, 0, none⟩) (n + 1) (n + 1)) := by rw [hz]; simp
          have k3 : y27.cell? ⟨y26.heap.size, 3, none⟩ = some (.slice (some ⟨bn, 0, none⟩) n n) := by rw [hz]; simp
          obtain ⟨B, hb_⟩ : ∃ z, z = y26.heap.size := ⟨_, rfl⟩
          rw [← hb_] at k0 k1 k2 k3 ⊢
          have pB : y26.heap.size ≤ B := by omega
          clear hz hb_
          refine hK.out _ _ ⟨n_.cell hHeld.1, n_.cell hHeld.2⟩ (fun hHeld => ?_)
          clear hK K
          (try simp only [Act.put, List.setIfInBounds_toArray, List.set_cons_zero, List.set_cons_succ])
          replace oc := oc.new n_
          replace of_ := of_.new n_
          replace on := on.new n_
          have sy27 := n_.size
          replace M0 := M0.trans n_; clear n_
          refine wpAnyH_take (i := 13) (oi := ⟨some 2, _, _, _, _, _⟩) (v := ?_) rfl (by kernel_rfl) (by kernel_rfl) (by kernel_rfl) (fun _ _ _ h => h) (Or.inl ⟨by rfl, ?_⟩) hHeld ?_; rotate_left; (· (intro w_ hSw; (try dsimp only at hSw); (try go_split_ands); go_simp; (try with_reducible rfl))); (try simp only [Act.put, List.setIfInBounds_toArray, List.set_cons_zero, List.set_cons_succ])
          refine wpAnyH_done (by kernel_rfl) ?_ _
          go_wp2_with fail
          go_meet
          refine ⟨B, bf, cf, bc, bn, rfl, M0, ⟨by omega, by omega, by omega, by omega⟩, ?_⟩
          rw [← HN.out]
          exact ⟨by have := LkOk.newK F; rw [HF.out, ← HN.out] at this; rw [← HN.out]; exact this, by rw [← HN.out]; exact HA.out.new (N0.out.trans M0), by rw [← HN.out]; exact k0, by rw [← HN.out]; exact k1, by rw [← HN.out]; exact k2, by rw [← HN.out]; exact k3, by rw [← HN.out]; exact of_, by rw [← HN.out]; exact oc, by rw [← HN.out]; exact on, ⟨⟨by omega, by omega, by omega⟩, by omega, by omega, by omega⟩, fun b e => by have := HA.out.blk (by omega) e; omega⟩
        refine AllReadyH.cons (o := ⟨some 17, _, _, _, _, _⟩) rfl (fun K hK => ?_) AllReadyH.nil
        go_simp
        obtain ⟨y28, hz⟩ : ∃ z, z = y24.alloc (.cells (Array.replicate (n) (Value.int .i64 0)) 3) := ⟨_, rfl⟩
        rw [← hz]
        have n_ : New y24 y28 := by rw [hz]; exact (New.refl _).alloc _
        obtain ⟨bn, hb_⟩ : ∃ z, z = y24.heap.size := ⟨_, rfl⟩
        rw [← hb_]
        have on : Own y28 bn (bn + 1) (some ⟨bn, 0, none⟩) (n) (n) (List.replicate (n) 0) := by rw [hb_, hz, ← List.toArray_replicate]; exact zeros_own _ _ (by omega)
        have pbn : y24.heap.size ≤ bn ∧ bn < y28.heap.size := by rw [hz, hb_]; simp
        clear hz hb_
        refine hK.out _ _ ⟨n_.cell hHeld.1, n_.cell hHeld.2⟩ (fun hHeld => ?_)
        clear hK K
        (try simp only [Act.put, List.setIfInBounds_toArray, List.set_cons_zero, List.set_cons_succ])
        replace oc := oc.new n_
        have sy28 := n_.size
        replace M0 := M0.trans n_; clear n_
        refine wpAnyH_ready (rs := [5]) (by kernel_rfl) (by simp) ?_
        refine AllReadyH.cons (o := ⟨some 12, _, _, _, _, _⟩) rfl (fun K hK => ?_) AllReadyH.nil
        refine step_append_grows (by rfl) (.tmp 9) (.tmp 11) 24 (by rfl) 4 i0 _ 1 1 Tryd.underlying24 hi hz0 hz1 hz2 rfl (by decide) (some ⟨eb, 0, none⟩) 0 0 [] (by rfl) (fun h => by cases h) rfl (fun _ _ _ _ hu => by simp at hu) bd n cb (F.map Value.bool) (by rfl) (by have := HF.out; have := HN.out; simp; omega) (HB.out.new (N0.out.trans M0)).source boolOne (by omega) (by unfold maxLen; omega) (by omega) ?_
        intro v_ y29 ho hg
        obtain ⟨qf, cf, rfl, of0⟩ := OwnBo.of_row (l := F) (by simpa using ho)
        obtain ⟨bf, rfl, pf, pf2, of_⟩ := of0.exact (by omega)
        have n_ : New y28 y29 := New.first0 hg
        clear ho hg of0
        refine hK.out _ _ ⟨n_.cell hHeld.1, n_.cell hHeld.2⟩ (fun hHeld => ?_)
        clear hK K
        (try simp only [Act.put, List.setIfInBounds_toArray, List.set_cons_zero, List.set_cons_succ])
        replace oc := oc.new n_
        replace on := on.new n_
        have sy29 := n_.size
        replace M0 := M0.trans n_; clear n_
        refine wpAnyH_take (i := 11) (oi := ⟨some 18, _, _, _, _, _⟩) (v := ?_) rfl (by kernel_rfl) (by kernel_rfl) (by kernel_rfl) (fun _ _ _ h => h) (Or.inl ⟨by rfl, ?_⟩) hHeld ?_; rotate_left; (· (intro w_ hSw; (try dsimp only at hSw); (try go_split_ands); go_simp; (try with_reducible rfl))); (try simp only [Act.put, List.setIfInBounds_toArray, List.set_cons_zero, List.set_cons_succ])
        refine wpAnyH_ready (rs := [12]) (by kernel_rfl) (by simp) ?_
        refine AllReadyH.cons (o := ⟨some 19, _, _, _, _, _⟩) rfl (fun K hK => ?_) AllReadyH.nil
        go_simp
        obtain ⟨y30, hz⟩ : ∃ z, z = y29.alloc (.cells #[.slice aa n ca, .slice (some ⟨bf, 0, none⟩) n cf, .slice (some ⟨bc, 0, none⟩) (n + 1) (n + 1), .slice (some ⟨bn, 0, none⟩) n n] 57) := ⟨_, rfl⟩
        rw [← hz]
        have n_ : New y29 y30 := by rw [hz]; exact (New.refl _).alloc _
        have k0 : y30.cell? ⟨y29.heap.size, 0, none⟩ = some (.slice aa n ca) := by rw [hz]; simp
        have k1 : y30.cell? ⟨y29.heap.size, 1, none⟩ = some (.slice (some ⟨bf, 0, none⟩) n cf) := by rw [hz]; simp
        have k2 : y30.cell? ⟨y29.heap.size, 2, none⟩ = some (.slice (some ⟨bc, 0, none⟩) (n + 1) (n + 1)) := by rw [hz]; simp
        have k3 : y30.cell? ⟨y29.heap.size, 3, none⟩ = some (.slice (some ⟨bn, 0, none⟩) n n) := by rw [hz]; simp
        obtain ⟨B, hb_⟩ : ∃ z, z = y29.heap.size := ⟨_, rfl⟩
        rw [← hb_] at k0 k1 k2 k3 ⊢
        have pB : y29.heap.size ≤ B := by omega
        clear hz hb_
        refine hK.out _ _ ⟨n_.cell hHeld.1, n_.cell hHeld.2⟩ (fun hHeld => ?_)
        clear hK K
        (try simp only [Act.put, List.setIfInBounds_toArray, List.set_cons_zero, List.set_cons_succ])
        replace oc := oc.new n_
        replace on := on.new n_
        replace of_ := of_.new n_
        have sy30 := n_.size
        replace M0 := M0.trans n_; clear n_
        refine wpAnyH_take (i := 13) (oi := ⟨some 2, _, _, _, _, _⟩) (v := ?_) rfl (by kernel_rfl) (by kernel_rfl) (by kernel_rfl) (fun _ _ _ h => h) (Or.inl ⟨by rfl, ?_⟩) hHeld ?_; rotate_left; (· (intro w_ hSw; (try dsimp only at hSw); (try go_split_ands); go_simp; (try with_reducible rfl))); (try simp only [Act.put, List.setIfInBounds_toArray, List.set_cons_zero, List.set_cons_succ])
        refine wpAnyH_done (by kernel_rfl) ?_ _
        go_wp2_with fail
        go_meet
        refine ⟨B, bf, cf, bc, bn, rfl, M0, ⟨by omega, by omega, by omega, by omega⟩, ?_⟩
        rw [← HN.out]
        exact ⟨by have := LkOk.newK F; rw [HF.out, ← HN.out] at this; rw [← HN.out]; exact this, by rw [← HN.out]; exact HA.out.new (N0.out.trans M0), by rw [← HN.out]; exact k0, by rw [← HN.out]; exact k1, by rw [← HN.out]; exact k2, by rw [← HN.out]; exact k3, by rw [← HN.out]; exact of_, by rw [← HN.out]; exact oc, by rw [← HN.out]; exact on, ⟨⟨by omega, by omega, by omega⟩, by omega, by omega, by omega⟩, fun b e => by have := HA.out.blk (by omega) e; omega⟩
      refine AllReadyH.cons (o := ⟨some 17, _, _, _, _, _⟩) rfl (fun K hK => ?_) AllReadyH.nil
      go_simp
      obtain ⟨y31, hz⟩ : ∃ z, z = y23.alloc (.cells (Array.replicate (n) (Value.int .i64 0)) 3) := ⟨_, rfl⟩
      rw [← hz]
      have n_ : New y23 y31 := by rw [hz]; exact (New.refl _).alloc _
      obtain ⟨bn, hb_⟩ : ∃ z, z = y23.heap.size := ⟨_, rfl⟩
      rw [← hb_]
      have on : Own y31 bn (bn + 1) (some ⟨bn, 0, none⟩) (n) (n) (List.replicate (n) 0) := by rw [hb_, hz, ← List.toArray_replicate]; exact zeros_own _ _ (by omega)
      have pbn : y23.heap.size ≤ bn ∧ bn < y31.heap.size := by rw [hz, hb_]; simp
      clear hz hb_
      refine hK.out _ _ ⟨n_.cell hHeld.1, n_.cell hHeld.2⟩ (fun hHeld => ?_)
      clear hK K
      (try simp only [Act.put, List.setIfInBounds_toArray, List.set_cons_zero, List.set_cons_succ])
      replace oc := oc.new n_
      have sy31 := n_.size
      replace M0 := M0.trans n_; clear n_
      refine wpAnyH_ready (rs := [2]) (by kernel_rfl) (by simp) ?_
      refine AllReadyH.cons (o := ⟨some 9, _, _, _, _, _⟩) rfl (fun K hK => ?_) AllReadyH.nil
      go_simp
      obtain ⟨y32, hz⟩ : ∃ z, z = y31.alloc (.cells #[] 4) := ⟨_, rfl⟩
      rw [← hz]
      have n_ : New y31 y32 := by rw [hz]; exact (New.refl _).alloc _
      obtain ⟨eb, heb⟩ : ∃ z, z = y31.heap.size := ⟨_, rfl⟩
      rw [← heb]
      clear hz heb
      refine hK.out _ _ ⟨n_.cell hHeld.1, n_.cell hHeld.2⟩ (fun hHeld => ?_)
      clear hK K
      (try simp only [Act.put, List.setIfInBounds_toArray, List.set_cons_zero, List.set_cons_succ])
      replace oc := oc.new n_
      replace on := on.new n_
      have sy32 := n_.size
      replace M0 := M0.trans n_; clear n_
      refine wpAnyH_ready (rs := [5]) (by kernel_rfl) (by simp) ?_
      refine AllReadyH.cons (o := ⟨some 12, _, _, _, _, _⟩) rfl (fun K hK => ?_) AllReadyH.nil
      refine step_append_grows (by rfl) (.tmp 9) (.tmp 11) 24 (by rfl) 4 i0 _ 1 1 Tryd.underlying24 hi hz0 hz1 hz2 rfl (by decide) (some ⟨eb, 0, none⟩) 0 0 [] (by rfl) (fun h => by cases h) rfl (fun _ _ _ _ hu => by simp at hu) bd n cb (F.map Value.bool) (by rfl) (by have := HF.out; have := HN.out; simp; omega) (HB.out.new (N0.out.trans M0)).source boolOne (by omega) (by unfold maxLen; omega) (by omega) ?_
      intro v_ y33 ho hg
      obtain ⟨qf, cf, rfl, of0⟩ := OwnBo.of_row (l := F) (by simpa using ho)
      obtain ⟨bf, rfl, pf, pf2, of_⟩ := of0.exact (by omega)
      have n_ : New y32 y33 := New.first0 hg
      clear ho hg of0
      refine hK.out _ _ ⟨n_.cell hHeld.1, n_.cell hHeld.2⟩ (fun hHeld => ?_)
      clear hK K
      (try simp only [Act.put, List.setIfInBounds_toArray, List.set_cons_zero, List.set_cons_succ])
      replace oc := oc.new n_
      replace on := on.new n_
      have sy33 := n_.size
      replace M0 := M0.trans n_; clear n_
      refine wpAnyH_take (i := 11) (oi := ⟨some 18, _, _, _, _, _⟩) (v := ?_) rfl (by kernel_rfl) (by kernel_rfl) (by kernel_rfl) (fun _ _ _ h => h) (Or.inl ⟨by rfl, ?_⟩) hHeld ?_; rotate_left; (· (intro w_ hSw; (try dsimp only at hSw); (try go_split_ands); go_simp; (try with_reducible rfl))); (try simp only [Act.put, List.setIfInBounds_toArray, List.set_cons_zero, List.set_cons_succ])
      refine wpAnyH_ready (rs := [12]) (by kernel_rfl) (by simp) ?_
      refine AllReadyH.cons (o := ⟨some 19, _, _, _, _, _⟩) rfl (fun K hK => ?_) AllReadyH.nil
      go_simp
      obtain ⟨y34, hz⟩ : ∃ z, z = y33.alloc (.cells #[.slice aa n ca, .slice (some ⟨bf, 0, none⟩) n cf, .slice (some ⟨bc, 0, none⟩) (n + 1) (n + 1), .slice (some ⟨bn, 0, none⟩) n n] 57) := ⟨_, rfl⟩
      rw [← hz]
      have n_ : New y33 y34 := by rw [hz]; exact (New.refl _).alloc _
      have k0 : y34.cell? ⟨y33.heap.size, 0, none⟩ = some (.slice aa n ca) := by rw [hz]; simp
      have k1 : y34.cell? ⟨y33.heap.size, 1, none⟩ = some (.slice (some ⟨bf, 0, none⟩) n cf) := by rw [hz]; simp
      have k2 : y34.cell? ⟨y33.heap.size, 2, none⟩ = some (.slice (some ⟨bc, 0, none⟩) (n + 1) (n + 1)) := by rw [hz]; simp
      have k3 : y34.cell? ⟨y33.heap.size, 3, none⟩ = some (.slice (some ⟨bn, 0, none⟩) n n) := by rw [hz]; simp
      obtain ⟨B, hb_⟩ : ∃ z, z = y33.heap.size := ⟨_, rfl⟩
      rw [← hb_] at k0 k1 k2 k3 ⊢
      have pB : y33.heap.size ≤ B := by omega
      clear hz hb_
      refine hK.out _ _ ⟨n_.cell hHeld.1, n_.cell hHeld.2⟩ (fun hHeld => ?_)
      clear hK K
      (try simp only [Act.put, List.setIfInBounds_toArray, List.set_cons_zero, List.set_cons_succ])
      replace oc := oc.new n_
      replace on := on.new n_
      replace of_ := of_.new n_
      have sy34 := n_.size
      replace M0 := M0.trans n_; clear n_
      refine wpAnyH_take (i := 13) (oi := ⟨some 2, _, _, _, _, _⟩) (v := ?_) rfl (by kernel_rfl) (by kernel_rfl) (by kernel_rfl) (fun _ _ _ h => h) (Or.inl ⟨by rfl, ?_⟩) hHeld ?_; rotate_left; (· (intro w_ hSw; (try dsimp only at hSw); (try go_split_ands); go_simp; (try with_reducible rfl))); (try simp only [Act.put, List.setIfInBounds_toArray, List.set_cons_zero, List.set_cons_succ])
      refine wpAnyH_done (by kernel_rfl) ?_ _
      go_wp2_with fail
      go_meet
      refine ⟨B, bf, cf, bc, bn, rfl, M0, ⟨by omega, by omega, by omega, by omega⟩, ?_⟩
      rw [← HN.out]
      exact ⟨by have := LkOk.newK F; rw [HF.out, ← HN.out] at this; rw [← HN.out]; exact this, by rw [← HN.out]; exact HA.out.new (N0.out.trans M0), by rw [← HN.out]; exact k0, by rw [← HN.out]; exact k1, by rw [← HN.out]; exact k2, by rw [← HN.out]; exact k3, by rw [← HN.out]; exact of_, by rw [← HN.out]; exact oc, by rw [← HN.out]; exact on, ⟨⟨by omega, by omega, by omega⟩, by omega, by omega, by omega⟩, fun b e => by have := HA.out.blk (by omega) e; omega⟩
    refine AllReadyH.cons (o := ⟨some 17, _, _, _, _, _⟩) rfl (fun K hK => ?_) AllReadyH.nil
    go_simp
    obtain ⟨y35, hz⟩ : ∃ z, z = y0.alloc (.cells (Array.replicate (n) (Value.int .i64 0)) 3) := ⟨_, rfl⟩
    rw [← hz]
    have n_ : New y0 y35 := by rw [hz]; exact (New.refl _).alloc _
    obtain ⟨bn, hb_⟩ : ∃ z, z = y0.heap.size := ⟨_, rfl⟩
    rw [← hb_]
    have on : Own y35 bn (bn + 1) (some ⟨bn, 0, none⟩) (n) (n) (List.replicate (n) 0) := by rw [hb_, hz, ← List.toArray_replicate]; exact zeros_own _ _ (by omega)
    have pbn : y0.heap.size ≤ bn ∧ bn < y35.heap.size := by rw [hz, hb_]; simp
    clear hz hb_
    refine hK.out _ _ ⟨n_.cell hHeld.1, n_.cell hHeld.2⟩ (fun hHeld => ?_)
    clear hK K
    (try simp only [Act.put, List.setIfInBounds_toArray, List.set_cons_zero, List.set_cons_succ])
    have sy35 := n_.size
    replace M0 := M0.trans n_; clear n_
    refine wpAnyH_ready (rs := [2, 8]) (by kernel_rfl) (by simp) ?_
    refine AllReadyH.cons (o := ⟨some 9, _, _, _, _, _⟩) rfl (fun K hK => ?_) ?_
    · skip
      go_simp
      obtain ⟨y36, hz⟩ : ∃ z, z = y35.alloc (.cells #[] 4) := ⟨_, rfl⟩
      rw [← hz]
      have n_ : New y35 y36 := by rw [hz]; exact (New.refl _).alloc _
      obtain ⟨eb, heb⟩ : ∃ z, z = y35.heap.size := ⟨_, rfl⟩
      rw [← heb]
      clear hz heb
      refine hK.out _ _ ⟨n_.cell hHeld.1, n_.cell hHeld.2⟩ (fun hHeld => ?_)
      clear hK K
      (try simp only [Act.put, List.setIfInBounds_toArray, List.set_cons_zero, List.set_cons_succ])
      replace on := on.new n_
      have sy36 := n_.size
      replace M0 := M0.trans n_; clear n_
      refine wpAnyH_ready (rs := [5, 8]) (by kernel_rfl) (by simp) ?_
      refine AllReadyH.cons (o := ⟨some 12, _, _, _, _, _⟩) rfl (fun K hK => ?_) ?_
      · skip
        refine step_append_grows (by rfl) (.tmp 9) (.tmp 11) 24 (by rfl) 4 i0 _ 1 1 Tryd.underlying24 hi hz0 hz1 hz2 rfl (by decide) (some ⟨eb, 0, none⟩) 0 0 [] (by rfl) (fun h => by cases h) rfl (fun _ _ _ _ hu => by simp at hu) bd n cb (F.map Value.bool) (by rfl) (by have := HF.out; have := HN.out; simp; omega) (HB.out.new (N0.out.trans M0)).source boolOne (by omega) (by unfold maxLen; omega) (by omega) ?_
        intro v_ y37 ho hg
        obtain ⟨qf, cf, rfl, of0⟩ := OwnBo.of_row (l := F) (by simpa using ho)
        obtain ⟨bf, rfl, pf, pf2, of_⟩ := of0.exact (by omega)
        have n_ : New y36 y37 := New.first0 hg
        clear ho hg of0
        refine hK.out _ _ ⟨n_.cell hHeld.1, n_.cell hHeld.2⟩ (fun hHeld => ?_)
        clear hK K
        (try simp only [Act.put, List.setIfInBounds_toArray, List.set_cons_zero, List.set_cons_succ])
        replace on := on.new n_
        have sy37 := n_.size
        replace M0 := M0.trans n_; clear n_
        refine wpAnyH_ready (rs := [8]) (by kernel_rfl) (by simp) ?_
        refine AllReadyH.cons (o := ⟨some 15, _, _, _, _, _⟩) rfl (fun K hK => ?_) AllReadyH.nil
        go_simp
        obtain ⟨y38, hz⟩ : ∃ z, z = y37.alloc (.cells (Array.replicate (n + 1) (Value.int .i64 0)) 3) := ⟨_, rfl⟩
        rw [← hz]
        have n_ : New y37 y38 := by rw [hz]; exact (New.refl _).alloc _
        obtain ⟨bc, hb_⟩ : ∃ z, z = y37.heap.size := ⟨_, rfl⟩
        rw [← hb_]
        have oc : Own y38 bc (bc + 1) (some ⟨bc, 0, none⟩) (n + 1) (n + 1) (List.replicate (n + 1) 0) := by rw [hb_, hz, ← List.toArray_replicate]; exact zeros_own _ _ (by omega)
        have pbc : y37.heap.size ≤ bc ∧ bc < y38.heap.size := by rw [hz, hb_]; simp
        clear hz hb_
        refine hK.out _ _ ⟨n_.cell hHeld.1, n_.cell hHeld.2⟩ (fun hHeld => ?_)
        clear hK K
        (try simp only [Act.put, List.setIfInBounds_toArray, List.set_cons_zero, List.set_cons_succ])
        replace on := on.new n_
        replace of_ := of_.new n_
        have sy38 := n_.size
        replace M0 := M0.trans n_; clear n_
        refine wpAnyH_take (i := 11) (oi := ⟨some 18, _, _, _, _, _⟩) (v := ?_) rfl (by kernel_rfl) (by kernel_rfl) (by kernel_rfl) (fun _ _ _ h => h) (Or.inl ⟨by rfl, ?_⟩) hHeld ?_; rotate_left; (· (intro w_ hSw; (try dsimp only at hSw); (try go_split_ands); go_simp; (try with_reducible rfl))); (try simp only [Act.put, List.setIfInBounds_toArray, List.set_cons_zero, List.set_cons_succ])
        refine wpAnyH_ready (rs := [12]) (by kernel_rfl) (by simp) ?_
        refine AllReadyH.cons (o := ⟨some 19, _, _, _, _, _⟩) rfl (fun K hK => ?_) AllReadyH.nil
        go_simp
        obtain ⟨y39, hz⟩ : ∃ z, z = y38.alloc (.cells #[.slice aa n ca, .slice (some ⟨bf, 0, none⟩) n cf, .slice (some ⟨bc, 0, none⟩) (n + 1) (n + 1), .slice (some ⟨bn, 0, none⟩) n n] 57) := ⟨_, rfl⟩
        rw [← hz]
        have n_ : New y38 y39 := by rw [hz]; exact (New.refl _).alloc _
        have k0 : y39.cell? ⟨y38.heap.size, 0, none⟩ = some (.slice aa n ca) := by rw [hz]; simp
        have k1 : y39.cell? ⟨y38.heap.size, 1, none⟩ = some (.slice (some ⟨bf, 0, none⟩) n cf) := by rw [hz]; simp
        have k2 : y39.cell? ⟨y38.heap.size, 2, none⟩ = some (.slice (some ⟨bc, 0, none⟩) (n + 1) (n + 1)) := by rw [hz]; simp
        have k3 : y39.cell? ⟨y38.heap.size, 3, none⟩ = some (.slice (some ⟨bn, 0, none⟩) n n) := by rw [hz]; simp
        obtain ⟨B, hb_⟩ : ∃ z, z = y38.heap.size := ⟨_, rfl⟩
        rw [← hb_] at k0 k1 k2 k3 ⊢
        have pB : y38.heap.size ≤ B := by omega
        clear hz hb_
        refine hK.out _ _ ⟨n_.cell hHeld.1, n_.cell hHeld.2⟩ (fun hHeld => ?_)
        clear hK K
        (try simp only [Act.put, List.setIfInBounds_toArray, List.set_cons_zero, List.set_cons_succ])
        replace on := on.new n_
        replace of_ := of_.new n_
        replace oc := oc.new n_
        have sy39 := n_.size
        replace M0 := M0.trans n_; clear n_
        refine wpAnyH_take (i := 13) (oi := ⟨some 2, _, _, _, _, _⟩) (v := ?_) rfl (by kernel_rfl) (by kernel_rfl) (by kernel_rfl) (fun _ _ _ h => h) (Or.inl ⟨by rfl, ?_⟩) hHeld ?_; rotate_left; (· (intro w_ hSw; (try dsimp only at hSw); (try go_split_ands); go_simp; (try with_reducible rfl))); (try simp only [Act.put, List.setIfInBounds_toArray, List.set_cons_zero, List.set_cons_succ])
        refine wpAnyH_done (by kernel_rfl) ?_ _
        go_wp2_with fail
        go_meet
        refine ⟨B, bf, cf, bc, bn, rfl, M0, ⟨by omega, by omega, by omega, by omega⟩, ?_⟩
        rw [← HN.out]
        exact ⟨by have := LkOk.newK F; rw [HF.out, ← HN.out] at this; rw [← HN.out]; exact this, by rw [← HN.out]; exact HA.out.new (N0.out.trans M0), by rw [← HN.out]; exact k0, by rw [← HN.out]; exact k1, by rw [← HN.out]; exact k2, by rw [← HN.out]; exact k3, by rw [← HN.out]; exact of_, by rw [← HN.out]; exact oc, by rw [← HN.out]; exact on, ⟨⟨by omega, by omega, by omega⟩, by omega, by omega, by omega⟩, fun b e => by have := HA.out.blk (by omega) e; omega⟩
      refine AllReadyH.cons (o := ⟨some 15, _, _, _, _, _⟩) rfl (fun K hK => ?_) AllReadyH.nil
      go_simp
      obtain ⟨y40, hz⟩ : ∃ z, z = y36.alloc (.cells (Array.replicate (n + 1) (Value.int .i64 0)) 3) := ⟨_, rfl⟩
      rw [← hz]
      have n_ : New y36 y40 := by rw [hz]; exact (New.refl _).alloc _
      obtain ⟨bc, hb_⟩ : ∃ z, z = y36.heap.size := ⟨_, rfl⟩
      rw [← hb_]
      have oc : Own y40 bc (bc + 1) (some ⟨bc, 0, none⟩) (n + 1) (n + 1) (List.replicate (n + 1) 0) := by rw [hb_, hz, ← List.toArray_replicate]; exact zeros_own _ _ (by omega)
      have pbc : y36.heap.size ≤ bc ∧ bc < y40.heap.size := by rw [hz, hb_]; simp
      clear hz hb_
      refine hK.out _ _ ⟨n_.cell hHeld.1, n_.cell hHeld.2⟩ (fun hHeld => ?_)
      clear hK K
      (try simp only [Act.put, List.setIfInBounds_toArray, List.set_cons_zero, List.set_cons_succ])
      replace on := on.new n_
      have sy40 := n_.size
      replace M0 := M0.trans n_; clear n_
      refine wpAnyH_ready (rs := [5]) (by kernel_rfl) (by simp) ?_
      refine AllReadyH.cons (o := ⟨some 12, _, _, _, _, _⟩) rfl (fun K hK => ?_) AllReadyH.nil
      refine step_append_grows (by rfl) (.tmp 9) (.tmp 11) 24 (by rfl) 4 i0 _ 1 1 Tryd.underlying24 hi hz0 hz1 hz2 rfl (by decide) (some ⟨eb, 0, none⟩) 0 0 [] (by rfl) (fun h => by cases h) rfl (fun _ _ _ _ hu => by simp at hu) bd n cb (F.map Value.bool) (by rfl) (by have := HF.out; have := HN.out; simp; omega) (HB.out.new (N0.out.trans M0)).source boolOne (by omega) (by unfold maxLen; omega) (by omega) ?_
      intro v_ y41 ho hg
      obtain ⟨qf, cf, rfl, of0⟩ := OwnBo.of_row (l := F) (by simpa using ho)
      obtain ⟨bf, rfl, pf, pf2, of_⟩ := of0.exact (by omega)
      have n_ : New y40 y41 := New.first0 hg
      clear ho hg of0
      refine hK.out _ _ ⟨n_.cell hHeld.1, n_.cell hHeld.2⟩ (fun hHeld => ?_)
      clear hK K
      (try simp only [Act.put, List.setIfInBounds_toArray, List.set_cons_zero, List.set_cons_succ])
      replace on := on.new n_
      replace oc := oc.new n_
      have sy41 := n_.size
      replace M0 := M0.trans n_; clear n_
      refine wpAnyH_take (i := 11) (oi := ⟨some 18, _, _, _, _, _⟩) (v := ?_) rfl (by kernel_rfl) (by kernel_rfl) (by kernel_rfl) (fun _ _ _ h => h) (Or.inl ⟨by rfl, ?_⟩) hHeld ?_; rotate_left; (· (intro w_ hSw; (try dsimp only at hSw); (try go_split_ands); go_simp; (try with_reducible rfl))); (try simp only [Act.put, List.setIfInBounds_toArray, List.set_cons_zero, List.set_cons_succ])
      refine wpAnyH_ready (rs := [12]) (by kernel_rfl) (by simp) ?_
      refine AllReadyH.cons (o := ⟨some 19, _, _, _, _, _⟩) rfl (fun K hK => ?_) AllReadyH.nil
      go_simp
      obtain ⟨y42, hz⟩ : ∃ z, z = y41.alloc (.cells #[.slice aa n ca, .slice (some ⟨bf, 0, none⟩) n cf, .slice (some ⟨bc, 0, none⟩) (n + 1) (n + 1), .slice (some ⟨bn, 0, none⟩) n n] 57) := ⟨_, rfl⟩
      rw [← hz]
      have n_ : New y41 y42 := by rw [hz]; exact (New.refl _).alloc _
      have k0 : y42.cell? ⟨y41.heap.size, 0, none⟩ = some (.slice aa n ca) := by rw [hz]; simp
      have k1 : y42.cell? ⟨y41.heap.size, 1, none⟩ = some (.slice (some ⟨bf, 0, none⟩) n cf) := by rw [hz]; simp
      have k2 : y42.cell? ⟨y41.heap.size, 2, none⟩ = some (.slice (some ⟨bc, 0, none⟩) (n + 1) (n + 1)) := by rw [hz]; simp
      have k3 : y42.cell? ⟨y41.heap.size, 3, none⟩ = some (.slice (some ⟨bn, 0, none⟩) n n) := by rw [hz]; simp
      obtain ⟨B, hb_⟩ : ∃ z, z = y41.heap.size := ⟨_, rfl⟩
      rw [← hb_] at k0 k1 k2 k3 ⊢
      have pB : y41.heap.size ≤ B := by omega
      clear hz hb_
      refine hK.out _ _ ⟨n_.cell hHeld.1, n_.cell hHeld.2⟩ (fun hHeld => ?_)
      clear hK K
      (try simp only [Act.put, List.setIfInBounds_toArray, List.set_cons_zero, List.set_cons_succ])
      replace on := on.new n_
      replace oc := oc.new n_
      replace of_ := of_.new n_
      have sy42 := n_.size
      replace M0 := M0.trans n_; clear n_
      refine wpAnyH_take (i := 13) (oi := ⟨some 2, _, _, _, _, _⟩) (v := ?_) rfl (by kernel_rfl) (by kernel_rfl) (by kernel_rfl) (fun _ _ _ h => h) (Or.inl ⟨by rfl, ?_⟩) hHeld ?_; rotate_left; (· (intro w_ hSw; (try dsimp only at hSw); (try go_split_ands); go_simp; (try with_reducible rfl))); (try simp only [Act.put, List.setIfInBounds_toArray, List.set_cons_zero, List.set_cons_succ])
      refine wpAnyH_done (by kernel_rfl) ?_ _
      go_wp2_with fail
      go_meet
      refine ⟨B, bf, cf, bc, bn, rfl, M0, ⟨by omega, by omega, by omega, by omega⟩, ?_⟩
      rw [← HN.out]
      exact ⟨by have := LkOk.newK F; rw [HF.out, ← HN.out] at this; rw [← HN.out]; exact this, by rw [← HN.out]; exact HA.out.new (N0.out.trans M0), by rw [← HN.out]; exact k0, by rw [← HN.out]; exact k1, by rw [← HN.out]; exact k2, by rw [← HN.out]; exact k3, by rw [← HN.out]; exact of_, by rw [← HN.out]; exact oc, by rw [← HN.out]; exact on, ⟨⟨by omega, by omega, by omega⟩, by omega, by omega, by omega⟩, fun b e => by have := HA.out.blk (by omega) e; omega⟩
    refine AllReadyH.cons (o := ⟨some 15, _, _, _, _, _⟩) rfl (fun K hK => ?_) AllReadyH.nil
    go_simp
    obtain ⟨y43, hz⟩ : ∃ z, z = y35.alloc (.cells (Array.replicate (n + 1) (Value.int .i64 0)) 3) := ⟨_, rfl⟩
    rw [← hz]
    have n_ : New y35 y43 := by rw [hz]; exact (New.refl _).alloc _
    obtain ⟨bc, hb_⟩ : ∃ z, z = y35.heap.size := ⟨_, rfl⟩
    rw [← hb_]
    have oc : Own y43 bc (bc + 1) (some ⟨bc, 0, none⟩) (n + 1) (n + 1) (List.replicate (n + 1) 0) := by rw [hb_, hz, ← List.toArray_replicate]; exact zeros_own _ _ (by omega)
    have pbc : y35.heap.size ≤ bc ∧ bc < y43.heap.size := by rw [hz, hb_]; simp
    clear hz hb_
    refine hK.out _ _ ⟨n_.cell hHeld.1, n_.cell hHeld.2⟩ (fun hHeld => ?_)
    clear hK K
    (try simp only [Act.put, List.setIfInBounds_toArray, List.set_cons_zero, List.set_cons_succ])
    replace on := on.new n_
    have sy43 := n_.size
    replace M0 := M0.trans n_; clear n_
    refine wpAnyH_ready (rs := [2]) (by kernel_rfl) (by simp) ?_
    refine AllReadyH.cons (o := ⟨some 9, _, _, _, _, _⟩) rfl (fun K hK => ?_) AllReadyH.nil
    go_simp
    obtain ⟨y44, hz⟩ : ∃ z, z = y43.alloc (.cells #[] 4) := ⟨_, rfl⟩
    rw [← hz]
    have n_ : New y43 y44 := by rw [hz]; exact (New.refl _).alloc _
    obtain ⟨eb, heb⟩ : ∃ z, z = y43.heap.size := ⟨_, rfl⟩
    rw [← heb]
    clear hz heb
    refine hK.out _ _ ⟨n_.cell hHeld.1, n_.cell hHeld.2⟩ (fun hHeld => ?_)
    clear hK K
    (try simp only [Act.put, List.setIfInBounds_toArray, List.set_cons_zero, List.set_cons_succ])
    replace on := on.new n_
    replace oc := oc.new n_
    have sy44 := n_.size
    replace M0 := M0.trans n_; clear n_
    refine wpAnyH_ready (rs := [5]) (by kernel_rfl) (by simp) ?_
    refine AllReadyH.cons (o := ⟨some 12, _, _, _, _, _⟩) rfl (fun K hK => ?_) AllReadyH.nil
    refine step_append_grows (by rfl) (.tmp 9) (.tmp 11) 24 (by rfl) 4 i0 _ 1 1 Tryd.underlying24 hi hz0 hz1 hz2 rfl (by decide) (some ⟨eb, 0, none⟩) 0 0 [] (by rfl) (fun h => by cases h) rfl (fun _ _ _ _ hu => by simp at hu) bd n cb (F.map Value.bool) (by rfl) (by have := HF.out; have := HN.out; simp; omega) (HB.out.new (N0.out.trans M0)).source boolOne (by omega) (by unfold maxLen; omega) (by omega) ?_
    intro v_ y45 ho hg
    obtain ⟨qf, cf, rfl, of0⟩ := OwnBo.of_row (l := F) (by simpa using ho)
    obtain ⟨bf, rfl, pf, pf2, of_⟩ := of0.exact (by omega)
    have n_ : New y44 y45 := New.first0 hg
    clear ho hg of0
    refine hK.out _ _ ⟨n_.cell hHeld.1, n_.cell hHeld.2⟩ (fun hHeld => ?_)
    clear hK K
    (try simp only [Act.put, List.setIfInBounds_toArray, List.set_cons_zero, List.set_cons_succ])
    replace on := on.new n_
    replace oc := oc.new n_
    have sy45 := n_.size
    replace M0 := M0.trans n_; clear n_
    refine wpAnyH_take (i := 11) (oi := ⟨some 18, _, _, _, _, _⟩) (v := ?_) rfl (by kernel_rfl) (by kernel_rfl) (by kernel_rfl) (fun _ _ _ h => h) (Or.inl ⟨by rfl, ?_⟩) hHeld ?_; rotate_left; (· (intro w_ hSw; (try dsimp only at hSw); (try go_split_ands); go_simp; (try with_reducible rfl))); (try simp only [Act.put, List.setIfInBounds_toArray, List.set_cons_zero, List.set_cons_succ])
    refine wpAnyH_ready (rs := [12]) (by kernel_rfl) (by simp) ?_
    refine AllReadyH.cons (o := ⟨some 19, _, _, _, _, _⟩) rfl (fun K hK => ?_) AllReadyH.nil
    go_simp
    obtain ⟨y46, hz⟩ : ∃ z, z = y45.alloc (.cells #[.slice aa n ca, .slice (some ⟨bf, 0, none⟩) n cf, .slice (some ⟨bc, 0, none⟩) (n + 1) (n + 1), .slice (some ⟨bn, 0, none⟩) n n] 57) := ⟨_, rfl⟩
    rw [← hz]
    have n_ : New y45 y46 := by rw [hz]; exact (New.refl _).alloc _
    have k0 : y46.cell? ⟨y45.heap.size, 0, none⟩ = some (.slice aa n ca) := by rw [hz]; simp
    have k1 : y46.cell? ⟨y45.heap.size, 1, none⟩ = some (.slice (some ⟨bf, 0, none⟩) n cf) := by rw [hz]; simp
    have k2 : y46.cell? ⟨y45.heap.size, 2, none⟩ = some (.slice (some ⟨bc, 0, none⟩) (n + 1) (n + 1)) := by rw [hz]; simp
    have k3 : y46.cell? ⟨y45.heap.size, 3, none⟩ = some (.slice (some ⟨bn, 0, none⟩) n n) := by rw [hz]; simp
    obtain ⟨B, hb_⟩ : ∃ z, z = y45.heap.size := ⟨_, rfl⟩
    rw [← hb_] at k0 k1 k2 k3 ⊢
    have pB : y45.heap.size ≤ B := by omega
    clear hz hb_
    refine hK.out _ _ ⟨n_.cell hHeld.1, n_.cell hHeld.2⟩ (fun hHeld => ?_)
    clear hK K
    (try simp only [Act.put, List.setIfInBounds_toArray, List.set_cons_zero, List.set_cons_succ])
    replace on := on.new n_
    replace oc := oc.new n_
    replace of_ := of_.new n_
    have sy46 := n_.size
    replace M0 := M0.trans n_; clear n_
    refine wpAnyH_take (i := 13) (oi := ⟨some 2, _, _, _, _, _⟩) (v := ?_) rfl (by kernel_rfl) (by kernel_rfl) (by kernel_rfl) (fun _ _ _ h => h) (Or.inl ⟨by rfl, ?_⟩) hHeld ?_; rotate_left; (· (intro w_ hSw; (try dsimp only at hSw); (try go_split_ands); go_simp; (try with_reducible rfl))); (try simp only [Act.put, List.setIfInBounds_toArray, List.set_cons_zero, List.set_cons_succ])
    refine wpAnyH_done (by kernel_rfl) ?_ _
    go_wp2_with fail
    go_meet
    refine ⟨B, bf, cf, bc, bn, rfl, M0, ⟨by omega, by omega, by omega, by omega⟩, ?_⟩
    rw [← HN.out]
    exact ⟨by have := LkOk.newK F; rw [HF.out, ← HN.out] at this; rw [← HN.out]; exact this, by rw [← HN.out]; exact HA.out.new (N0.out.trans M0), by rw [← HN.out]; exact k0, by rw [← HN.out]; exact k1, by rw [← HN.out]; exact k2, by rw [← HN.out]; exact k3, by rw [← HN.out]; exact of_, by rw [← HN.out]; exact oc, by rw [← HN.out]; exact on, ⟨⟨by omega, by omega, by omega⟩, by omega, by omega, by omega⟩, fun b e => by have := HA.out.blk (by omega) e; omega⟩
  case rest =>
    obtain ⟨B, bf, cf, bc, bn, rfl, hn5, hlo, hbx⟩ := hcut
    have BX := Lib.hid hbx; clear hbx
    have N5 := Lib.hid hn5; clear hn5
    go_wp2
    go_ret
    exact ⟨B, bf, cf, bc, bn, rfl, by rw [HN.out]; exact BX.out, ⟨by omega, by omega, by omega, by omega⟩, N0.out.trans N5.out⟩

set_option maxRecDepth 100000 in
set_option maxHeartbeats 4000000 in
theorem sFlight_any (w : World) (B : Nat) (al : Option Addr) (cl bf cf bc cc bn cn : Nat) (L : List Int) (s : LkS) (hb : LkBox w B al cl bf cf bc cc bn cn L s) (h1 : 1 ≤ L.length) (h6 : L.length ≤ 6) :
    Calls Tryd.prog 37 #[.pointer (some ⟨B, 0, none⟩)] w fun e w' => ∃ sa sc sb sd, e = .returned (.agg #[.slice sa L.length sc, .slice sb L.length sd]) ∧ OwnF w' w.heap.size w'.heap.size sa L.length sc sb L.length sd L s.F ∧ New w w' := by
  have HB := Lib.hid hb; clear hb
  obtain ⟨n, hn⟩ : ∃ n, n = L.length := ⟨_, rfl⟩
  have c0 := HB.out.c0
  have c1 := HB.out.c1
  rw [← hn] at c0 c1 h1 h6 ⊢
  have HN := Lib.hid hn; clear hn
  have zB := World.block_lt_of_cell? _ _ c0
  obtain ⟨i0, hi, hz0, hz1, hz2⟩ := info_parts Tryd.infoBool
  go_enter Tryd.func37, Tryd.ntmps37
  go_upto_region 1 with fail
  obtain ⟨v0, hv0⟩ : ∃ xx : World, xx = (w.alloc (.cells #[.slice none 0 0, .slice none 0 0] 28)) := ⟨_, rfl⟩
  rw [← hv0]
  have N0 := Lib.hid (show New w v0 by rw [hv0]; exact (by repeat (first | with_reducible exact New.refl _ | with_reducible assumption | refine New.drewN ?_ _ | refine New.drew ?_ | refine New.alloc ?_ _ | refine New.setCell ?_ (by first | omega | (simp; omega) | (simp; done)) _ | (refine New.trans ?_ (by assumption)))))
  have RR : WB v0 w.heap.size [.slice none 0 0, .slice none 0 0] 28 := by rw [hv0]; exact WB.alloc w [.slice none 0 0, .slice none 0 0] 28
  have b0_v0 : v0.cell? ⟨B, 0, none⟩ = some (.slice al n cl) := N0.out.cell c0
  have b1_v0 : v0.cell? ⟨B, 1, none⟩ = some (.slice (some ⟨bf, 0, none⟩) n cf) := N0.out.cell c1
  have zr0 : w.heap.size < v0.heap.size := by rw [hv0]; simp
  have BXn : B < w.heap.size := zB
  clear hv0 c0 c1 zB
  have M0 : New v0 v0.drew := (New.refl _).drew
  refine wp_region_held_drew (S := fun w' => w'.cell? ⟨B, 0, none⟩ = some (.slice al n cl) ∧ w'.cell? ⟨B, 1, none⟩ = some (.slice (some ⟨bf, 0, none⟩) n cf)) (by kernel_rfl) ⟨b0_v0, b1_v0⟩ (fun hHeld => ?_)
  obtain ⟨y0, hy0⟩ : ∃ y, y = v0.drew := ⟨_, rfl⟩
  rw [← hy0] at M0 hHeld  ⊢; clear hy0
  have sy0 := M0.size
  refine wpAnyH_take (i := 0) (oi := ⟨some 3, _, _, _, _, _⟩) (v := ?_) rfl (by kernel_rfl) (by kernel_rfl) (by kernel_rfl) (fun _ _ _ h => h) (Or.inl ⟨by rfl, ?_⟩) hHeld ?_; rotate_left; (· (intro w_ hSw; (try dsimp only at hSw); (try go_split_ands); go_simp; (try with_reducible rfl))); (try simp only [Act.put, List.setIfInBounds_toArray, List.set_cons_zero, List.set_cons_succ])
  refine wpAnyH_take (i := 1) (oi := ⟨some 4, _, _, _, _, _⟩) (v := ?_) rfl (by kernel_rfl) (by kernel_rfl) (by kernel_rfl) (fun _ _ _ h => h) (Or.inl ⟨by rfl, ?_⟩) hHeld ?_; rotate_left; (· (intro w_ hSw; (try dsimp only at hSw); (try go_split_ands); go_simp; (try with_reducible rfl))); (try simp only [Act.put, List.setIfInBounds_toArray, List.set_cons_zero, List.set_cons_succ])
  refine wpAnyH_take (i := 2) (oi := ⟨some 5, _, _, _, _, _⟩) (v := ?_) rfl (by kernel_rfl) (by kernel_rfl) (by kernel_rfl) (fun _ _ _ h => h) (Or.inl ⟨by rfl, ?_⟩) hHeld ?_; rotate_left; (· (intro w_ hSw; (try dsimp only at hSw); (try go_split_ands); go_simp; (try with_reducible rfl))); (try simp only [Act.put, List.setIfInBounds_toArray, List.set_cons_zero, List.set_cons_succ])
  refine wpAnyH_take (i := 3) (oi := ⟨some 6, _, _, _, _, _⟩) (v := ?_) rfl (by kernel_rfl) (by kernel_rfl) (by kernel_rfl) (fun _ _ _ h => h) (Or.inl ⟨by rfl, ?_⟩) hHeld ?_; rotate_left; (· (intro w_ hSw; (try dsimp only at hSw); (try go_split_ands); go_simp; (try with_reducible rfl))); (try simp only [Act.put, List.setIfInBounds_toArray, List.set_cons_zero, List.set_cons_succ])
  refine wpAnyH_take (i := 6) (oi := ⟨some 9, _, _, _, _, _⟩) (v := ?_) rfl (by kernel_rfl) (by kernel_rfl) (by kernel_rfl) (fun _ _ _ h => h) (Or.inl ⟨by rfl, ?_⟩) hHeld ?_; rotate_left; (· (intro w_ hSw; (try dsimp only at hSw); (try go_split_ands); go_simp; (try with_reducible rfl))); (try simp only [Act.put, List.setIfInBounds_toArray, List.set_cons_zero, List.set_cons_succ])
  refine wpAnyH_take (i := 7) (oi := ⟨some 10, _, _, _, _, _⟩) (v := ?_) rfl (by kernel_rfl) (by kernel_rfl) (by kernel_rfl) (fun _ _ _ h => h) (Or.inl ⟨by rfl, ?_⟩) hHeld ?_; rotate_left; (· (intro w_ hSw; (try dsimp only at hSw); (try go_split_ands); go_simp; (try with_reducible rfl))); (try simp only [Act.put, List.setIfInBounds_toArray, List.set_cons_zero, List.set_cons_succ])
  refine wpAnyH_take (i := 8) (oi := ⟨some 11, _, _, _, _, _⟩) (v := ?_) rfl (by kernel_rfl) (by kernel_rfl) (by kernel_rfl) (fun _ _ _ h => h) (Or.inl ⟨by rfl, ?_⟩) hHeld ?_; rotate_left; (· (intro w_ hSw; (try dsimp only at hSw); (try go_split_ands); go_simp; (try with_reducible rfl))); (try simp only [Act.put, List.setIfInBounds_toArray, List.set_cons_zero, List.set_cons_succ])
  refine wpAnyH_take (i := 9) (oi := ⟨some 12, _, _, _, _, _⟩) (v := ?_) rfl (by kernel_rfl) (by kernel_rfl) (by kernel_rfl) (fun _ _ _ h => h) (Or.inl ⟨by rfl, ?_⟩) hHeld ?_; rotate_left; (· (intro w_ hSw; (try dsimp only at hSw); (try go_split_ands); go_simp; (try with_reducible rfl))); (try simp only [Act.put, List.setIfInBounds_toArray, List.set_cons_zero, List.set_cons_succ])
  refine wpAnyH_ready (rs := [4, 5]) (by kernel_rfl) (by simp) ?_
  refine AllReadyH.cons (o := ⟨some 7, _, _, _, _, _⟩) rfl (fun K hK => ?_) ?_
  · skip
    go_simp
    refine (l1Own_any _ al n cl L (by rw [HN.out]; exact HB.out.lift.new (N0.out.trans M0)) (by omega)).mono ?_
    rintro e y1 ⟨sa, sc, rfl, oa, n_⟩
    have poa : y0.heap.size ≤ y0.heap.size := Nat.le_refl _
    refine hK.out _ _ ⟨n_.cell hHeld.1, n_.cell hHeld.2⟩ (fun hHeld => ?_)
    clear hK K
    (try simp only [Act.put, List.setIfInBounds_toArray, List.set_cons_zero, List.set_cons_succ])
    have sy1 := n_.size
    replace M0 := M0.trans n_; clear n_
    refine wpAnyH_ready (rs := [5]) (by kernel_rfl) (by simp) ?_
    refine AllReadyH.cons (o := ⟨some 8, _, _, _, _, _⟩) rfl (fun K hK => ?_) AllReadyH.nil
    go_simp
    obtain ⟨y2, hz⟩ : ∃ z, z = y1.alloc (.cells #[] 4) := ⟨_, rfl⟩
    rw [← hz]
    have n_ : New y1 y2 := by rw [hz]; exact (New.refl _).alloc _
    obtain ⟨eb, heb⟩ : ∃ z, z = y1.heap.size := ⟨_, rfl⟩
    rw [← heb]
    clear hz heb
    refine hK.out _ _ ⟨n_.cell hHeld.1, n_.cell hHeld.2⟩ (fun hHeld => ?_)
    clear hK K
    (try simp only [Act.put, List.setIfInBounds_toArray, List.set_cons_zero, List.set_cons_succ])
    replace oa := oa.new n_
    have sy2 := n_.size
    replace M0 := M0.trans n_; clear n_
    refine wpAnyH_ready (rs := [10]) (by kernel_rfl) (by simp) ?_
    refine AllReadyH.cons (o := ⟨some 13, _, _, _, _, _⟩) rfl (fun K hK => ?_) AllReadyH.nil
    refine step_append_grows (by rfl) (.tmp 8) (.tmp 12) 24 (by rfl) 4 i0 _ 1 1 Tryd.underlying24 hi hz0 hz1 hz2 rfl (by decide) (some ⟨eb, 0, none⟩) 0 0 [] (by rfl) (fun h => by cases h) rfl (fun _ _ _ _ hu => by simp at hu) ⟨bf, 0, none⟩ n cf (s.F.map Value.bool) (by rfl) (by have := HB.out.ok.f; have := HN.out; simp; omega) (HB.out.new (N0.out.trans M0)).rf.reads.source boolOne (by omega) (by unfold maxLen; omega) (by omega) ?_
    intro v_ y3 ho hg
    obtain ⟨sb, sd, rfl, ob⟩ := OwnBo.of_row (l := s.F) (by simpa using ho)
    have n_ : New y2 y3 := New.first0 hg
    clear ho hg
    refine hK.out _ _ ⟨n_.cell hHeld.1, n_.cell hHeld.2⟩ (fun hHeld => ?_)
    clear hK K
    (try simp only [Act.put, List.setIfInBounds_toArray, List.set_cons_zero, List.set_cons_succ])
    replace oa := oa.new n_
    have sy3 := n_.size
    replace M0 := M0.trans n_; clear n_
    refine wpAnyH_take (i := 11) (oi := ⟨some 14, _, _, _, _, _⟩) (v := ?_) rfl (by kernel_rfl) (by kernel_rfl) (by kernel_rfl) (fun _ _ _ h => h) (Or.inl ⟨by rfl, ?_⟩) hHeld ?_; rotate_left; (· (intro w_ hSw; (try dsimp only at hSw); (try go_split_ands); go_simp; (try with_reducible rfl))); (try simp only [Act.put, List.setIfInBounds_toArray, List.set_cons_zero, List.set_cons_succ])
    refine wpAnyH_ready (rs := [12]) (by kernel_rfl) (by simp) ?_
    refine AllReadyH.cons (o := ⟨none, _, _, _, _, _⟩) rfl (fun K hK => ?_) AllReadyH.nil
    have x0 := (RR.new M0).cell (k := 0) rfl; have f0 := (RR.new M0).frozen 0; have x1 := (RR.new M0).cell (k := 1) rfl; have f1 := (RR.new M0).frozen 1
    go_simp
    (try simp only [Nat.zero_add])
    refine hK.out _ _ ⟨World.cell_set (World.cell_set hHeld.1 (by simp; omega)) (by simp; omega), World.cell_set (World.cell_set hHeld.2 (by simp; omega)) (by simp; omega)⟩ (fun hHeld => ?_)
    clear hK K
    (try simp only [Act.put, List.setIfInBounds_toArray, List.set_cons_zero, List.set_cons_succ])
    refine wpAnyH_done (by kernel_rfl) ?_ _
    have k9 := ((RR.new M0).set 0 (.slice sa n sc)).set 1 (.slice sb n sd)
    go_wp2
    refine bodyPost_ret (v := .agg #[.slice sa n sc, .slice sb n sd]) (by simp [results, Tryd.results37, go_sem, k9.cell (k := 0) rfl, k9.cell (k := 1) rfl]) rfl ⟨sa, sc, sb, sd, rfl, ?_, ?_⟩
    · refine OwnF.setCell (OwnF.setCell ⟨oa.mono (by omega) (by omega), ob.mono (by omega) (by omega), fun u1 u2 e => ?_⟩ (p := ⟨w.heap.size, 0, none⟩) (.inl (by dsimp only; omega)) _) (p := ⟨w.heap.size, 1, none⟩) (.inl (by dsimp only; omega)) _ |>.mono (lo := v0.heap.size) (hi := y3.heap.size) (by omega) (by simp)
      cases hb : blkOf sb with
      | none => exact ob.has u2 hb
      | some b => have q1 := oa.bounds u1 (e.trans hb); have q2 := ob.bounds u2 hb; omega
    · exact ((N0.out.trans M0).setCell (by dsimp only; omega) _).setCell (by dsimp only; omega) _
  refine AllReadyH.cons (o := ⟨some 8, _, _, _, _, _⟩) rfl (fun K hK => ?_) AllReadyH.nil
  go_simp
  obtain ⟨y5, hz⟩ : ∃ z, z = y0.alloc (.cells #[] 4) := ⟨_, rfl⟩
  rw [← hz]
  have n_ : New y0 y5 := by rw [hz]; exact (New.refl _).alloc _
  obtain ⟨eb, heb⟩ : ∃ z, z = y0.heap.size := ⟨_, rfl⟩
  rw [← heb]
  clear hz heb
  refine hK.out _ _ ⟨n_.cell hHeld.1, n_.cell hHeld.2⟩ (fun hHeld => ?_)
  clear hK K
  (try simp only [Act.put, List.setIfInBounds_toArray, List.set_cons_zero, List.set_cons_succ])
  have sy5 := n_.size
  replace M0 := M0.trans n_; clear n_
  refine wpAnyH_ready (rs := [4]) (by kernel_rfl) (by simp) ?_
  refine AllReadyH.cons (o := ⟨some 7, _, _, _, _, _⟩) rfl (fun K hK => ?_) AllReadyH.nil
  go_simp
  refine (l1Own_any _ al n cl L (by rw [HN.out]; exact HB.out.lift.new (N0.out.trans M0)) (by omega)).mono ?_
  rintro e y6 ⟨sa, sc, rfl, oa, n_⟩
  have poa : y5.heap.size ≤ y5.heap.size := Nat.le_refl _
  refine hK.out _ _ ⟨n_.cell hHeld.1, n_.cell hHeld.2⟩ (fun hHeld => ?_)
  clear hK K
  (try simp only [Act.put, List.setIfInBounds_toArray, List.set_cons_zero, List.set_cons_succ])
  have sy6 := n_.size
  replace M0 := M0.trans n_; clear n_
  refine wpAnyH_ready (rs := [10]) (by kernel_rfl) (by simp) ?_
  refine AllReadyH.cons (o := ⟨some 13, _, _, _, _, _⟩) rfl (fun K hK => ?_) AllReadyH.nil
  refine step_append_grows (by rfl) (.tmp 8) (.tmp 12) 24 (by rfl) 4 i0 _ 1 1 Tryd.underlying24 hi hz0 hz1 hz2 rfl (by decide) (some ⟨eb, 0, none⟩) 0 0 [] (by rfl) (fun h => by cases h) rfl (fun _ _ _ _ hu => by simp at hu) ⟨bf, 0, none⟩ n cf (s.F.map Value.bool) (by rfl) (by have := HB.out.ok.f; have := HN.out; simp; omega) (HB.out.new (N0.out.trans M0)).rf.reads.source boolOne (by omega) (by unfold maxLen; omega) (by omega) ?_
  intro v_ y7 ho hg
  obtain ⟨sb, sd, rfl, ob⟩ := OwnBo.of_row (l := s.F) (by simpa using ho)
  have n_ : New y6 y7 := New.first0 hg
  clear ho hg
  refine hK.out _ _ ⟨n_.cell hHeld.1, n_.cell hHeld.2⟩ (fun hHeld => ?_)
  clear hK K
  (try simp only [Act.put, List.setIfInBounds_toArray, List.set_cons_zero, List.set_cons_succ])
  replace oa := oa.new n_
  have sy7 := n_.size
  replace M0 := M0.trans n_; clear n_
  refine wpAnyH_take (i := 11) (oi := ⟨some 14, _, _, _, _, _⟩) (v := ?_) rfl (by kernel_rfl) (by kernel_rfl) (by kernel_rfl) (fun _ _ _ h => h) (Or.inl ⟨by rfl, ?_⟩) hHeld ?_; rotate_left; (· (intro w_ hSw; (try dsimp only at hSw); (try go_split_ands); go_simp; (try with_reducible rfl))); (try simp only [Act.put, List.setIfInBounds_toArray, List.set_cons_zero, List.set_cons_succ])
  refine wpAnyH_ready (rs := [12]) (by kernel_rfl) (by simp) ?_
  refine AllReadyH.cons (o := ⟨none, _, _, _, _, _⟩) rfl (fun K hK => ?_) AllReadyH.nil
  have x0 := (RR.new M0).cell (k := 0) rfl; have f0 := (RR.new M0).frozen 0; have x1 := (RR.new M0).cell (k := 1) rfl; have f1 := (RR.new M0).frozen 1
  go_simp
  (try simp only [Nat.zero_add])
  refine hK.out _ _ ⟨World.cell_set (World.cell_set hHeld.1 (by simp; omega)) (by simp; omega), World.cell_set (World.cell_set hHeld.2 (by simp; omega)) (by simp; omega)⟩ (fun hHeld => ?_)
  clear hK K
  (try simp only [Act.put, List.setIfInBounds_toArray, List.set_cons_zero, List.set_cons_succ])
  refine wpAnyH_done (by kernel_rfl) ?_ _
  have k9 := ((RR.new M0).set 0 (.slice sa n sc)).set 1 (.slice sb n sd)
  go_wp2
  refine bodyPost_ret (v := .agg #[.slice sa n sc, .slice sb n sd]) (by simp [results, Tryd.results37, go_sem, k9.cell (k := 0) rfl, k9.cell (k := 1) rfl]) rfl ⟨sa, sc, sb, sd, rfl, ?_, ?_⟩
  · refine OwnF.setCell (OwnF.setCell ⟨oa.mono (by omega) (by omega), ob.mono (by omega) (by omega), fun u1 u2 e => ?_⟩ (p := ⟨w.heap.size, 0, none⟩) (.inl (by dsimp only; omega)) _) (p := ⟨w.heap.size, 1, none⟩) (.inl (by dsimp only; omega)) _ |>.mono (lo := v0.heap.size) (hi := y7.heap.size) (by omega) (by simp)
    cases hb : blkOf sb with
    | none => exact ob.has u2 hb
    | some b => have q1 := oa.bounds u1 (e.trans hb); have q2 := ob.bounds u2 hb; omega
  · exact ((N0.out.trans M0).setCell (by dsimp only; omega) _).setCell (by dsimp only; omega) _
end Go.Proofs.YtmhcnomkkjgidaaDoor
