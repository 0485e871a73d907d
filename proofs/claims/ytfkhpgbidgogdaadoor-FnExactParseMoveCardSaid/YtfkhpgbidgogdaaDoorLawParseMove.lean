/- The law of ParseMove: its walk. -/
import Derived.Test.YtfkhpgbidgogdaaDoorPmC
namespace Go.Proofs.YtfkhpgbidgogdaaDoor
open Go.RowKit

theorem eqMove_any (w : World) (a b c d : Int) :
    Calls Tryd.prog 6 #[.agg #[.int .i64 a, .int .i64 b], .agg #[.int .i64 c, .int .i64 d]] w fun e w' => e = .returned (.bool (decide ((a, b) = (c, d)))) ∧ New w w' := by
  by_cases h1 : a = c
  · subst h1
    by_cases h2 : b = d
    · subst h2
      go_enter Tryd.func6, Tryd.ntmps6
      go_wp2
      go_ret
      exact ⟨ret_bool (by simp), (by repeat (first | with_reducible exact New.refl _ | with_reducible assumption | refine New.drewN ?_ _ | refine New.drew ?_ | refine New.alloc ?_ _ | refine New.setCell ?_ (by first | omega | (simp; omega) | (simp; done)) _ | (refine New.trans ?_ (by assumption))))⟩
    · have h3 : (b != d) = true := by simpa using h2
      go_enter Tryd.func6, Tryd.ntmps6
      go_wp2
      go_ret
      exact ⟨ret_bool (by simp [h2]), (by repeat (first | with_reducible exact New.refl _ | with_reducible assumption | refine New.drewN ?_ _ | refine New.drew ?_ | refine New.alloc ?_ _ | refine New.setCell ?_ (by first | omega | (simp; omega) | (simp; done)) _ | (refine New.trans ?_ (by assumption))))⟩
  · have h3 : (a != c) = true := by simpa using h1
    go_enter Tryd.func6, Tryd.ntmps6
    go_wp2
    go_ret
    exact ⟨ret_bool (by simp [h1]), (by repeat (first | with_reducible exact New.refl _ | with_reducible assumption | refine New.drewN ?_ _ | refine New.drew ?_ | refine New.alloc ?_ _ | refine New.setCell ?_ (by first | omega | (simp; omega) | (simp; done)) _ | (refine New.trans ?_ (by assumption))))⟩
theorem end_inj {f g : Int} {c : UInt8} (hc : c = 116 ∨ c = 100) (f0 : -1 ≤ f) (f5 : f < 5) (g0 : -1 ≤ g) (g5 : g < 5) (h : endT f c = endT g c) : f = g := by
  have hf : f = -1 ∨ f = 0 ∨ f = 1 ∨ f = 2 ∨ f = 3 ∨ f = 4 := by omega
  have hg : g = -1 ∨ g = 0 ∨ g = 1 ∨ g = 2 ∨ g = 3 ∨ g = 4 := by omega
  have h2 := congrArg (fun x : ByteArray => x.data.toList) h
  rcases hc with rfl | rfl <;> rcases hf with rfl | rfl | rfl | rfl | rfl | rfl <;> rcases hg with rfl | rfl | rfl | rfl | rfl | rfl <;> first | rfl | (exfalso; revert h2; decide)
theorem move_inj {f t f' t' : Int} (h : moveB 5 f t = true) (h' : moveB 5 f' t' = true) (e : moveT f t = moveT f' t') : f = f' ∧ t = t' := by
  have a := move_cut h
  have b := move_cut h'
  rw [e] at a
  have q := moveB_in h
  have q' := moveB_in h'
  exact ⟨end_inj (.inl rfl) q.1.1 q.1.2 q'.1.1 q'.1.2 (a.1.symm.trans b.1), end_inj (.inr rfl) q.2.1 q.2.2 q'.2.1 q'.2.2 (a.2.symm.trans b.2)⟩

set_option maxRecDepth 100000 in
set_option maxHeartbeats 1000000 in
theorem law_ParseMove (w : World) (s : ByteArray) (hs : s.size ≤ maxLen) (he : PmEnv w) (hx : ∃ m, w.cell? ⟨0, 0, none⟩ = some (.int .i64 m)) :
    Calls Tryd.prog 3 #[.string s] w fun e w' => e = .returned (.bool true) ∧ New w w' := by
  unfold maxLen at hs
  have HE := Lib.hid he; clear he
  obtain ⟨mx, hm⟩ := hx
  by_cases hb : s.size ≤ 1048576
  · go_enter Tryd.func3, Tryd.ntmps3
    go_wp2_with fail
    refine (sParseMove_any _ s).mono ?_
    rintro e w1 ⟨F, T, B, rfl, n1, h1⟩
    have N1 := Lib.hid n1; clear n1
    have H1 := Lib.hid h1; clear h1
    go_upto_region 4 with fail
    obtain ⟨w2, hw2⟩ : ∃ u : World, u = w1.alloc (.cells #[.int .i64 F, .int .i64 T] 23) := ⟨_, rfl⟩
    rw [← hw2]
    have a0 : w2.cell? ⟨w1.heap.size, 0, none⟩ = some (.int .i64 F) := by rw [hw2]; simp [go_sem]
    have a1 : w2.cell? ⟨w1.heap.size, 1, none⟩ = some (.int .i64 T) := by rw [hw2]; simp [go_sem]
    have N2 := Lib.hid (show New w w2 by rw [hw2]; exact N1.out.alloc _)
    clear hw2
    go_wp2_with fail
    refine (iParseMove_any _ s hb (HE.out.new N2.out) ⟨mx, N2.out.cell hm⟩).mono ?_
    rintro e w3 ⟨F2, T2, B2, rfl, n3, h2⟩
    have EQ : F2 = F ∧ T2 = T ∧ B2 = B := by
      rcases H1.out with ⟨rfl, a, b⟩ | ⟨rfl, rfl, rfl, a⟩
      · rcases h2 with ⟨rfl, c, d⟩ | ⟨rfl, rfl, rfl, c⟩
        · obtain ⟨x, y⟩ := move_inj c a (d.trans b.symm)
          exact ⟨x, y, rfl⟩
        · exact absurd b (c _ _ a)
      · rcases h2 with ⟨rfl, c, d⟩ | ⟨rfl, rfl, rfl, c⟩
        · exact absurd d (a _ _ c)
        · exact ⟨rfl, rfl, rfl⟩
    obtain ⟨rfl, rfl, rfl⟩ := EQ
    clear h2
    have b0 := n3.cell a0
    have b1 := n3.cell a1
    have zb := World.block_lt_of_cell? _ _ b0
    simp only at zb
    have N3 := Lib.hid (N2.out.trans n3); clear n3 a0 a1
    go_wp2_with fail
    refine (eqMove_any _ _ _ _ _).mono ?_
    rintro e w4 ⟨rfl, n4⟩
    have N4 := Lib.hid (show New w w4 from N3.out.trans (New.trans (by repeat (first | with_reducible exact New.refl _ | with_reducible assumption | refine New.drewN ?_ _ | refine New.drew ?_ | refine New.alloc ?_ _ | refine New.setCell ?_ (by first | omega | (simp; omega) | (simp; done)) _ | (refine New.trans ?_ (by assumption)))) n4)); clear n4
    go_wp2
    go_ret
    exact ⟨ret_bool (by simp), N4.out⟩
  · go_enter Tryd.func3, Tryd.ntmps3
    go_wp2
    go_ret
    exact ⟨ret_bool rfl, New.refl _⟩
end Go.Proofs.YtfkhpgbidgogdaaDoor
