/- The program's differences of ratios and what a tank holds up to a level, as a ratio: regions whose order is drawn. -/
import Derived.Test.YtlhpkpfnaepgbaaRatJ
namespace Go.Proofs.Ytlhpkpfnaepgbaa
open Go.RowKit Go.IntWalk

set_option maxRecDepth 100000 in
theorem waterUpTo_any (w : World) (a f u n d : Int) (ht : TkOk (a, f, u)) (hp : LvBd (n, d)) :
    Calls Try.prog 42 #[tkV a f u, ratV (n, d)] w fun e w' => e = .returned (ratV (red (upTo n d (a, f, u)) d)) ∧ New w w' := by
  have hb := upTo_bd ht hp
  simp only at hb
  have hd := hp.d0; have hd1 := hp.d1
  simp only at hd hd1
  have HT := Lib.hid ht; clear ht
  have HL := Lib.hid hp; clear hp
  obtain ⟨x, hx⟩ : ∃ x, x = upTo n d (a, f, u) := ⟨_, rfl⟩
  rw [← hx] at hb
  have HX := Lib.hid hx; clear hx
  obtain ⟨p, hp⟩ : ∃ p, p = red x d := ⟨_, rfl⟩
  have HP := Lib.hid hp; clear hp
  go_enter Try.func42, Try.ntmps42
  go_upto_region 1 with fail
  obtain ⟨v0, hv0⟩ : ∃ v, v = (((w.alloc (.cells #[.int .i64 a, .int .i64 f, .int .i64 u] 47)).alloc (.cells #[.int .i64 n, .int .i64 d] 58)).alloc (.cells #[.int .i64 0, .int .i64 0] 58)) := ⟨_, rfl⟩
  rw [← hv0]
  have a0_v0 : v0.cell? ⟨w.heap.size, 0, none⟩ = some (.int .i64 a) := by rw [hv0]; simp [go_sem]
  have a1_v0 : v0.cell? ⟨w.heap.size, 1, none⟩ = some (.int .i64 f) := by rw [hv0]; simp [go_sem]
  have a2_v0 : v0.cell? ⟨w.heap.size, 2, none⟩ = some (.int .i64 u) := by rw [hv0]; simp [go_sem]
  have b0_v0 : v0.cell? ⟨w.heap.size + 1, 0, none⟩ = some (.int .i64 n) := by rw [hv0]; simp [go_sem]
  have b1_v0 : v0.cell? ⟨w.heap.size + 1, 1, none⟩ = some (.int .i64 d) := by rw [hv0]; simp [go_sem]
  have r0_v0 : v0.cell? ⟨w.heap.size + 1 + 1, 0, none⟩ = some (.int .i64 0) := by rw [hv0]; simp [go_sem]
  have zr0_v0 : v0.frozen? ⟨w.heap.size + 1 + 1, 0, none⟩ = false := by rw [hv0]; simp [go_sem]
  have r1_v0 : v0.cell? ⟨w.heap.size + 1 + 1, 1, none⟩ = some (.int .i64 0) := by rw [hv0]; simp [go_sem]
  have zr1_v0 : v0.frozen? ⟨w.heap.size + 1 + 1, 1, none⟩ = false := by rw [hv0]; simp [go_sem]
  have N0 := Lib.hid (show New w v0 by rw [hv0]; exact (by repeat (first | with_reducible exact New.refl _ | with_reducible assumption | refine New.drewN ?_ _ | refine New.drew ?_ | refine New.alloc ?_ _ | refine New.setCell ?_ (by first | omega | (simp; omega) | (simp; done)) _ | (refine New.trans ?_ (by assumption)))))
  have zv0 : w.heap.size + 1 + 1 < v0.heap.size := by rw [hv0]; simp
  clear hv0
  go_region_held3 (fun w' => w'.cell? ⟨w.heap.size, 0, none⟩ = some (.int .i64 a) ∧ w'.cell? ⟨w.heap.size, 1, none⟩ = some (.int .i64 f) ∧ w'.cell? ⟨w.heap.size, 2, none⟩ = some (.int .i64 u) ∧ w'.cell? ⟨w.heap.size + 1, 0, none⟩ = some (.int .i64 n) ∧ w'.cell? ⟨w.heap.size + 1, 1, none⟩ = some (.int .i64 d))
    (first | exact ⟨a0_v0, a1_v0, a2_v0, b0_v0, b1_v0⟩ | exact ⟨a0_u1, a1_u1, a2_u1, b0_u1, b1_u1⟩ | exact ⟨a0_u2, a1_u2, a2_u2, b0_u2, b1_u2⟩ | exact ⟨World.cell_set (World.cell_set (a0_u2) (by simp; try omega)) (by simp; try omega), World.cell_set (World.cell_set (a1_u2) (by simp; try omega)) (by simp; try omega), World.cell_set (World.cell_set (a2_u2) (by simp; try omega)) (by simp; try omega), World.cell_set (World.cell_set (b0_u2) (by simp; try omega)) (by simp; try omega), World.cell_set (World.cell_set (b1_u2) (by simp; try omega)) (by simp; try omega)⟩ | fail)
    (first
      | (go_at_call 54; refine (partsUpTo_any _ a f u n d HT.out HL.out).mono ?_; rintro e u1 ⟨rfl, n_u1⟩; (try replace n_u1 := New.undrew n_u1); have a0_u1 : u1.cell? ⟨w.heap.size, 0, none⟩ = some (.int .i64 a) := n_u1.cell a0_v0; have a1_u1 : u1.cell? ⟨w.heap.size, 1, none⟩ = some (.int .i64 f) := n_u1.cell a1_v0; have a2_u1 : u1.cell? ⟨w.heap.size, 2, none⟩ = some (.int .i64 u) := n_u1.cell a2_v0; have b0_u1 : u1.cell? ⟨w.heap.size + 1, 0, none⟩ = some (.int .i64 n) := n_u1.cell b0_v0; have b1_u1 : u1.cell? ⟨w.heap.size + 1, 1, none⟩ = some (.int .i64 d) := n_u1.cell b1_v0; have r0_u1 : u1.cell? ⟨w.heap.size + 1 + 1, 0, none⟩ = some (.int .i64 0) := n_u1.cell r0_v0; have zr0_u1 : u1.frozen? ⟨w.heap.size + 1 + 1, 0, none⟩ = false := n_u1.frz r0_v0 zr0_v0; have r1_u1 : u1.cell? ⟨w.heap.size + 1 + 1, 1, none⟩ = some (.int .i64 0) := n_u1.cell r1_v0; have zr1_u1 : u1.frozen? ⟨w.heap.size + 1 + 1, 1, none⟩ = false := n_u1.frz r1_v0 zr1_v0; rw [← HX.out]; skip)
      | (go_at_call 53; refine (ratioOf_any _ x d (by omega) (by omega) (by omega) (by omega)).mono ?_; rintro e u2 ⟨rfl, n_u2⟩; (try replace n_u2 := New.undrew n_u2); have a0_u2 : u2.cell? ⟨w.heap.size, 0, none⟩ = some (.int .i64 a) := n_u2.cell a0_u1; have a1_u2 : u2.cell? ⟨w.heap.size, 1, none⟩ = some (.int .i64 f) := n_u2.cell a1_u1; have a2_u2 : u2.cell? ⟨w.heap.size, 2, none⟩ = some (.int .i64 u) := n_u2.cell a2_u1; have b0_u2 : u2.cell? ⟨w.heap.size + 1, 0, none⟩ = some (.int .i64 n) := n_u2.cell b0_u1; have b1_u2 : u2.cell? ⟨w.heap.size + 1, 1, none⟩ = some (.int .i64 d) := n_u2.cell b1_u1; have r0_u2 : u2.cell? ⟨w.heap.size + 1 + 1, 0, none⟩ = some (.int .i64 0) := n_u2.cell r0_u1; have zr0_u2 : u2.frozen? ⟨w.heap.size + 1 + 1, 0, none⟩ = false := n_u2.frz r0_u1 zr0_u1; have r1_u2 : u2.cell? ⟨w.heap.size + 1 + 1, 1, none⟩ = some (.int .i64 0) := n_u2.cell r1_u1; have zr1_u2 : u2.frozen? ⟨w.heap.size + 1 + 1, 1, none⟩ = false := n_u2.frz r1_u1 zr1_u1; rw [← HP.out]; skip))
  have K_u1 := Lib.hid (show New v0 u1 from n_u1); clear n_u1
  have K_u2 := Lib.hid (show New u1 u2 from n_u2); clear n_u2
  go_wp2
  refine bodyPost_ret (v := ratV p) (by simp [results, Try.results42, go_sem, r0_u2, r1_u2]) rfl ⟨by rw [HP.out, HX.out], ?_⟩
  have := ((N0.out.trans K_u1.out).trans K_u2.out)
  (repeat (first | with_reducible exact New.refl _ | with_reducible assumption | refine New.drewN ?_ _ | refine New.drew ?_ | refine New.alloc ?_ _ | refine New.setCell ?_ (by first | omega | (simp; omega) | (simp; done)) _ | (refine New.trans ?_ (by assumption))))
end Go.Proofs.Ytlhpkpfnaepgbaa
