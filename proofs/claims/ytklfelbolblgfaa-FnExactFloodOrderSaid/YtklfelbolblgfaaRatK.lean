/- The program's differences of ratios and what a tank holds up to a level, as a ratio: regions whose order is drawn. -/
import Derived.Test.YtklfelbolblgfaaRatJ
namespace Go.Proofs.Ytklfelbolblgfaa
open Go.RowKit Go.IntWalk

set_option maxRecDepth 100000 in
theorem minus_any (w : World) (a b c d : Int) (hb : 0 < b * d) (hd : 0 < d) (hcop : Int.gcd c d = 1) (h1 : -2000000000000000000 ≤ a * d) (h2 : a * d ≤ 2000000000000000000) (h3 : -2000000000000000000 ≤ c * b) (h4 : c * b ≤ 2000000000000000000) (h5 : b * d ≤ 2000000000000000000) (h6 : -1000000000000000000 ≤ c) (h7 : c ≤ 1000000000000000000) (h8 : d ≤ 1000000000000000000) :
    Calls Try.prog 62 #[ratV (a, b), ratV (c, d)] w fun e w' => e = .returned (ratV (red (a * d - c * b) (b * d))) ∧ New w w' := by
  have hr : red (c * -1) d = (-c, d) := by
    rw [Int.mul_neg, Int.mul_one]
    refine red_of_cop ?_
    rw [Int.neg_gcd]; exact hcop
  have HR := Lib.hid hr; clear hr
  have HE := Lib.hid (show a * d + -c * b = a * d - c * b by rw [Int.neg_mul]; omega)
  have hn : -c * b = -(c * b) := by rw [Int.neg_mul]
  have h3' : -2000000000000000000 ≤ -c * b := by omega
  have h4' : -c * b ≤ 2000000000000000000 := by omega
  have hm : c * -1 = -c := by omega
  have h9 : -4000000000000000000 ≤ c * -1 := by omega
  have h10 : c * -1 ≤ 4000000000000000000 := by omega
  have h11 : d ≤ 4000000000000000000 := by omega
  obtain ⟨p, hp⟩ : ∃ p, p = red (a * d - c * b) (b * d) := ⟨_, rfl⟩
  have HP := Lib.hid hp; clear hp
  clear hn hm
  go_enter Try.func62, Try.ntmps62
  go_upto_region 1 with fail
  obtain ⟨v0, hv0⟩ : ∃ v, v = (((w.alloc (.cells #[.int .i64 a, .int .i64 b] 29)).alloc (.cells #[.int .i64 c, .int .i64 d] 29)).alloc (.cells #[.int .i64 0, .int .i64 0] 29)) := ⟨_, rfl⟩
  rw [← hv0]
  have a0_v0 : v0.cell? ⟨w.heap.size, 0, none⟩ = some (.int .i64 a) := by rw [hv0]; simp [go_sem]
  have a1_v0 : v0.cell? ⟨w.heap.size, 1, none⟩ = some (.int .i64 b) := by rw [hv0]; simp [go_sem]
  have b0_v0 : v0.cell? ⟨w.heap.size + 1, 0, none⟩ = some (.int .i64 c) := by rw [hv0]; simp [go_sem]
  have b1_v0 : v0.cell? ⟨w.heap.size + 1, 1, none⟩ = some (.int .i64 d) := by rw [hv0]; simp [go_sem]
  have r0_v0 : v0.cell? ⟨w.heap.size + 1 + 1, 0, none⟩ = some (.int .i64 0) := by rw [hv0]; simp [go_sem]
  have zr0_v0 : v0.frozen? ⟨w.heap.size + 1 + 1, 0, none⟩ = false := by rw [hv0]; simp [go_sem]
  have r1_v0 : v0.cell? ⟨w.heap.size + 1 + 1, 1, none⟩ = some (.int .i64 0) := by rw [hv0]; simp [go_sem]
  have zr1_v0 : v0.frozen? ⟨w.heap.size + 1 + 1, 1, none⟩ = false := by rw [hv0]; simp [go_sem]
  have N0 := Lib.hid (show New w v0 by rw [hv0]; exact (by repeat (first | with_reducible exact New.refl _ | with_reducible assumption | refine New.drewN ?_ _ | refine New.drew ?_ | refine New.alloc ?_ _ | refine New.setCell ?_ (by first | omega | (simp; omega) | (simp; done)) _ | (refine New.trans ?_ (by assumption)))))
  have zv0 : w.heap.size + 1 + 1 < v0.heap.size := by rw [hv0]; simp
  clear hv0
  go_region_held3 (fun w' => w'.cell? ⟨w.heap.size, 0, none⟩ = some (.int .i64 a) ∧ w'.cell? ⟨w.heap.size, 1, none⟩ = some (.int .i64 b) ∧ w'.cell? ⟨w.heap.size + 1, 0, none⟩ = some (.int .i64 c) ∧ w'.cell? ⟨w.heap.size + 1, 1, none⟩ = some (.int .i64 d))
    (first | exact ⟨a0_v0, a1_v0, b0_v0, b1_v0⟩ | exact ⟨a0_u1, a1_u1, b0_u1, b1_u1⟩ | exact ⟨a0_u2, a1_u2, b0_u2, b1_u2⟩ | exact ⟨World.cell_set (World.cell_set (a0_u2) (by simp; try omega)) (by simp; try omega), World.cell_set (World.cell_set (a1_u2) (by simp; try omega)) (by simp; try omega), World.cell_set (World.cell_set (b0_u2) (by simp; try omega)) (by simp; try omega), World.cell_set (World.cell_set (b1_u2) (by simp; try omega)) (by simp; try omega)⟩ | fail)
    (first
      | (go_at_call 83; refine (times_any _ c d (-1) hd h9 h10 h11).mono ?_; rintro e u1 ⟨rfl, n_u1⟩; (try replace n_u1 := New.undrew n_u1); have a0_u1 : u1.cell? ⟨w.heap.size, 0, none⟩ = some (.int .i64 a) := n_u1.cell a0_v0; have a1_u1 : u1.cell? ⟨w.heap.size, 1, none⟩ = some (.int .i64 b) := n_u1.cell a1_v0; have b0_u1 : u1.cell? ⟨w.heap.size + 1, 0, none⟩ = some (.int .i64 c) := n_u1.cell b0_v0; have b1_u1 : u1.cell? ⟨w.heap.size + 1, 1, none⟩ = some (.int .i64 d) := n_u1.cell b1_v0; have r0_u1 : u1.cell? ⟨w.heap.size + 1 + 1, 0, none⟩ = some (.int .i64 0) := n_u1.cell r0_v0; have zr0_u1 : u1.frozen? ⟨w.heap.size + 1 + 1, 0, none⟩ = false := n_u1.frz r0_v0 zr0_v0; have r1_u1 : u1.cell? ⟨w.heap.size + 1 + 1, 1, none⟩ = some (.int .i64 0) := n_u1.cell r1_v0; have zr1_u1 : u1.frozen? ⟨w.heap.size + 1 + 1, 1, none⟩ = false := n_u1.frz r1_v0 zr1_v0; rw [HR.out]; skip)
      | (go_at_call 77; refine (plus_any _ a b (-c) d hb h1 h2 h3' h4' h5).mono ?_; rintro e u2 ⟨rfl, n_u2⟩; (try replace n_u2 := New.undrew n_u2); have a0_u2 : u2.cell? ⟨w.heap.size, 0, none⟩ = some (.int .i64 a) := n_u2.cell a0_u1; have a1_u2 : u2.cell? ⟨w.heap.size, 1, none⟩ = some (.int .i64 b) := n_u2.cell a1_u1; have b0_u2 : u2.cell? ⟨w.heap.size + 1, 0, none⟩ = some (.int .i64 c) := n_u2.cell b0_u1; have b1_u2 : u2.cell? ⟨w.heap.size + 1, 1, none⟩ = some (.int .i64 d) := n_u2.cell b1_u1; have r0_u2 : u2.cell? ⟨w.heap.size + 1 + 1, 0, none⟩ = some (.int .i64 0) := n_u2.cell r0_u1; have zr0_u2 : u2.frozen? ⟨w.heap.size + 1 + 1, 0, none⟩ = false := n_u2.frz r0_u1 zr0_u1; have r1_u2 : u2.cell? ⟨w.heap.size + 1 + 1, 1, none⟩ = some (.int .i64 0) := n_u2.cell r1_u1; have zr1_u2 : u2.frozen? ⟨w.heap.size + 1 + 1, 1, none⟩ = false := n_u2.frz r1_u1 zr1_u1; rw [HE.out, ← HP.out]; skip))
  have K_u1 := Lib.hid (show New v0 u1 from n_u1); clear n_u1
  have K_u2 := Lib.hid (show New u1 u2 from n_u2); clear n_u2
  go_wp2
  refine bodyPost_ret (v := ratV p) (by simp [results, Try.results62, go_sem, r0_u2, r1_u2]) rfl ⟨by rw [HP.out], ?_⟩
  have := ((N0.out.trans K_u1.out).trans K_u2.out)
  (repeat (first | with_reducible exact New.refl _ | with_reducible assumption | refine New.drewN ?_ _ | refine New.drew ?_ | refine New.alloc ?_ _ | refine New.setCell ?_ (by first | omega | (simp; omega) | (simp; done)) _ | (refine New.trans ?_ (by assumption))))
end Go.Proofs.Ytklfelbolblgfaa
