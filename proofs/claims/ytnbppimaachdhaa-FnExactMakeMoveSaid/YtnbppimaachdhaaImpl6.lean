/- The program's MakeMove. -/
import Derived.Test.YtnbppimaachdhaaImpl5
namespace Go.Proofs.Ytnbppimaachdhaa
open Go.RowKit

theorem poured_length (S H : List Int) (f t : Int) : (poured S H f t).length = H.length := by
  unfold poured
  simp only
  split <;> split <;> simp

set_option maxHeartbeats 1000000 in
theorem iMakeMove_any (w : World) (aa ab : Option Addr) (n m ca cb : Nat) (S H : List Int) (f t : Int) (h1 : Ints w aa n ca S) (h2 : Ints w ab m cb H) :
    Calls Try.prog 24 #[.agg #[.slice aa n ca, .slice ab m cb], .agg #[.int .i64 f, .int .i64 t]] w (RetV w (makeM S H f t).1 (makeM S H f t).2.1 (makeM S H f t).2.2) := by
  have HA := Lib.hid h1; clear h1
  have HB := Lib.hid h2; clear h2
  by_cases hg : goodB S H = true
  · have hn := HA.out.len
    have q3 : n ≤ 5 := by have := (goodB_iff.1 hg).1; omega
    by_cases hm : moveB n f t = true
    · have hA : askedB S H f t = true := by unfold askedB; rw [hg, ← hn, hm]; rfl
      rw [makeM_yes hA]
      have HQ := Lib.hid (askedB_iff.1 hA); clear hA
      have HN := Lib.hid hn; clear hn
      go_enter Try.func24, Try.ntmps24
      go_wp2_with fail
      refine (iAreVessels_any _ _ _ _ _ _ _ _ _ (HA.out.new (by repeat (first | with_reducible exact New.refl _ | with_reducible assumption | refine New.drewN ?_ _ | refine New.drew ?_ | refine New.alloc ?_ _ | refine New.setCell ?_ (by first | omega | (simp; omega) | (simp; done)) _ | (refine New.trans ?_ (by assumption))))) (HB.out.new (by repeat (first | with_reducible exact New.refl _ | with_reducible assumption | refine New.drewN ?_ _ | refine New.drew ?_ | refine New.alloc ?_ _ | refine New.setCell ?_ (by first | omega | (simp; omega) | (simp; done)) _ | (refine New.trans ?_ (by assumption)))))).mono ?_
      rintro e w1 ⟨rfl, n1⟩
      have a0 : w1.cell? ⟨w.heap.size, 0, none⟩ = some (.slice aa n ca) := n1.cell (by simp [go_sem])
      have a1 : w1.cell? ⟨w.heap.size, 1, none⟩ = some (.slice ab m cb) := n1.cell (by simp [go_sem])
      have b0 : w1.cell? ⟨w.heap.size + 1, 0, none⟩ = some (.int .i64 f) := n1.cell (by simp [go_sem])
      have b1 : w1.cell? ⟨w.heap.size + 1, 1, none⟩ = some (.int .i64 t) := n1.cell (by simp [go_sem])
      have c0 : w1.cell? ⟨w.heap.size + 1 + 1, 0, none⟩ = some (.slice none 0 0) := n1.cell (by simp [go_sem])
      have c1 : w1.cell? ⟨w.heap.size + 1 + 1, 1, none⟩ = some (.slice none 0 0) := n1.cell (by simp [go_sem])
      have f0 : w1.frozen? ⟨w.heap.size + 1 + 1, 0, none⟩ = false := n1.frz (v := .slice none 0 0) (by simp [go_sem]) (by simp [go_sem])
      have f1 : w1.frozen? ⟨w.heap.size + 1 + 1, 1, none⟩ = false := n1.frz (v := .slice none 0 0) (by simp [go_sem]) (by simp [go_sem])
      have z1 := n1.size
      simp only [World.size_alloc] at z1
      have nw : New w w1 := New.trans (by repeat (first | with_reducible exact New.refl _ | with_reducible assumption | refine New.drewN ?_ _ | refine New.drew ?_ | refine New.alloc ?_ _ | refine New.setCell ?_ (by first | omega | (simp; omega) | (simp; done)) _ | (refine New.trans ?_ (by assumption)))) n1
      have N1 := Lib.hid nw; clear n1 nw
      go_wp2_with fail
      refine (isMoveAmong_any _ _ _ _ q3).mono ?_
      rintro e w2 ⟨rfl, n2⟩
      have a0' := n2.cell a0
      have a1' := n2.cell a1
      have b0' := n2.cell b0
      have b1' := n2.cell b1
      have c0' := n2.cell c0
      have c1' := n2.cell c1
      have f0' := n2.frz c0 f0
      have f1' := n2.frz c1 f1
      have z2 := n2.size
      have N2 := Lib.hid (N1.out.trans n2); clear n2 a0 a1 b0 b1 c0 c1 f0 f1
      go_wp2_with fail
      go_region_held3 (fun w' => w'.cell? ⟨w.heap.size, 0, none⟩ = some (.slice aa n ca) ∧ w'.cell? ⟨w.heap.size, 1, none⟩ = some (.slice ab m cb) ∧ w'.cell? ⟨w.heap.size + 1, 0, none⟩ = some (.int .i64 f) ∧ w'.cell? ⟨w.heap.size + 1, 1, none⟩ = some (.int .i64 t))
        (first | exact ⟨a0', a1', b0', b1'⟩ | exact ⟨n3.cell a0', n3.cell a1', n3.cell b0', n3.cell b1'⟩ | exact ⟨n4.cell (n3.cell a0'), n4.cell (n3.cell a1'), n4.cell (n3.cell b0'), n4.cell (n3.cell b1')⟩ | exact ⟨p0, p1, p2, p3⟩ | exact ⟨World.cell_set (World.cell_set p0 (by simp; omega)) (by simp; omega), World.cell_set (World.cell_set p1 (by simp; omega)) (by simp; omega), World.cell_set (World.cell_set p2 (by simp)) (by simp), World.cell_set (World.cell_set p3 (by simp)) (by simp)⟩ | fail)
        (first
          | (go_at_call 39; refine (holdingOf_any _ _ _ _ _ _ _ H ?_ ?_).mono ?_; exact HB.out.new N2.out.drew; exact (by have := HQ.out.1.1; have := HQ.out.1.2.1; omega); rintro e w3 ⟨rfl, n3⟩)
          | (go_at_call 42; refine (pour_any _ _ _ _ S H _ _ ?_ ?_ ?_).mono ?_; exact HA.out.new (N2.out.drew.trans n3); exact HQ.out.1; exact HQ.out.2; rintro e w4 ⟨rfl, n4⟩)
          | (go_at_call 41; refine (vesselsWith_any _ _ _ _ S (poured S H f t) ?_ ?_ ?_ ?_).mono ?_; exact HA.out.new ((N2.out.drew.trans n3).trans n4); exact HQ.out.1.1.1; exact HQ.out.1.1.2; exact (poured_length S H f t).trans HQ.out.1.2.1; rintro e w5 ⟨sa, sb, rfl, o5, n5⟩; have k0 := n5.cell (n4.cell (n3.cell c0')); have k1 := n5.cell (n4.cell (n3.cell c1')); have k2 := n5.frz (n4.cell (n3.cell c0')) (n4.frz (n3.cell c0') (n3.frz c0' f0')); have k3 := n5.frz (n4.cell (n3.cell c1')) (n4.frz (n3.cell c1') (n3.frz c1' f1')); have p0 := n5.cell (n4.cell (n3.cell a0')); have p1 := n5.cell (n4.cell (n3.cell a1')); have p2 := n5.cell (n4.cell (n3.cell b0')); have p3 := n5.cell (n4.cell (n3.cell b1'))))
      go_wp2
      have nn := ((N2.out.drew.trans n3).trans n4).trans n5
      have y3 := n3.size
      have y4 := n4.size
      have y5 := n5.size
      simp only [World.size_drew] at y3
      refine bodyPost_ret (v := .tuple #[.agg #[.slice sa n n, .slice sb n n], .bool true]) (by simp [results, Try.results24, go_sem, k0, k1]) rfl ⟨sa, n, n, sb, n, n, rfl, ?_, (by repeat (first | with_reducible exact New.refl _ | with_reducible assumption | refine New.drewN ?_ _ | refine New.drew ?_ | refine New.alloc ?_ _ | refine New.setCell ?_ (by first | omega | (simp; omega) | (simp; done)) _ | (refine New.trans ?_ (by assumption))))⟩
      exact ((o5.setCell (.inl (by simp; omega)) _).setCell (.inl (by simp; omega)) _).mono (by omega) (by simp)
    · have hm' : moveB n f t = false := by simpa using hm
      have hA : askedB S H f t = false := by unfold askedB; rw [hg, ← hn, hm']; rfl
      rw [makeM_no hA]
      clear hn hA
      go_enter Try.func24, Try.ntmps24
      go_wp2_with fail
      refine (iAreVessels_any _ _ _ _ _ _ _ _ _ (HA.out.new (by repeat (first | with_reducible exact New.refl _ | with_reducible assumption | refine New.drewN ?_ _ | refine New.drew ?_ | refine New.alloc ?_ _ | refine New.setCell ?_ (by first | omega | (simp; omega) | (simp; done)) _ | (refine New.trans ?_ (by assumption))))) (HB.out.new (by repeat (first | with_reducible exact New.refl _ | with_reducible assumption | refine New.drewN ?_ _ | refine New.drew ?_ | refine New.alloc ?_ _ | refine New.setCell ?_ (by first | omega | (simp; omega) | (simp; done)) _ | (refine New.trans ?_ (by assumption)))))).mono ?_
      rintro e w1 ⟨rfl, n1⟩
      have a0 : w1.cell? ⟨w.heap.size, 0, none⟩ = some (.slice aa n ca) := n1.cell (by simp [go_sem])
      have b0 : w1.cell? ⟨w.heap.size + 1, 0, none⟩ = some (.int .i64 f) := n1.cell (by simp [go_sem])
      have b1 : w1.cell? ⟨w.heap.size + 1, 1, none⟩ = some (.int .i64 t) := n1.cell (by simp [go_sem])
      have c0 : w1.cell? ⟨w.heap.size + 1 + 1, 0, none⟩ = some (.slice none 0 0) := n1.cell (by simp [go_sem])
      have c1 : w1.cell? ⟨w.heap.size + 1 + 1, 1, none⟩ = some (.slice none 0 0) := n1.cell (by simp [go_sem])
      have f0 : w1.frozen? ⟨w.heap.size + 1 + 1, 0, none⟩ = false := n1.frz (v := .slice none 0 0) (by simp [go_sem]) (by simp [go_sem])
      have f1 : w1.frozen? ⟨w.heap.size + 1 + 1, 1, none⟩ = false := n1.frz (v := .slice none 0 0) (by simp [go_sem]) (by simp [go_sem])
      have nw : New w w1 := New.trans (by repeat (first | with_reducible exact New.refl _ | with_reducible assumption | refine New.drewN ?_ _ | refine New.drew ?_ | refine New.alloc ?_ _ | refine New.setCell ?_ (by first | omega | (simp; omega) | (simp; done)) _ | (refine New.trans ?_ (by assumption)))) n1
      have N1 := Lib.hid nw; clear n1 nw
      go_wp2_with fail
      refine (isMoveAmong_any _ _ _ _ q3).mono ?_
      rintro e w2 ⟨rfl, n2⟩
      have d0 := n2.cell c0
      have d1 := n2.cell c1
      have g0 := n2.frz c0 f0
      have g1 := n2.frz c1 f1
      have N2 := Lib.hid (N1.out.trans n2); clear n2 c0 c1 f0 f1 a0 b0 b1
      go_wp2
      have nn := N2.out
      exact bodyPost_ret (v := .tuple #[.agg #[.slice none 0 0, .slice none 0 0], .bool false]) (by simp [results, Try.results24, go_sem, d0, d1]) rfl ⟨none, 0, 0, none, 0, 0, rfl, OwnV.nil _ _ _, (by repeat (first | with_reducible exact New.refl _ | with_reducible assumption | refine New.drewN ?_ _ | refine New.drew ?_ | refine New.alloc ?_ _ | refine New.setCell ?_ (by first | omega | (simp; omega) | (simp; done)) _ | (refine New.trans ?_ (by assumption))))⟩
  · have hg' : goodB S H = false := by simpa using hg
    have hA : askedB S H f t = false := by unfold askedB; rw [hg']; rfl
    rw [makeM_no hA]
    clear hA
    go_enter Try.func24, Try.ntmps24
    go_wp2_with fail
    refine (iAreVessels_any _ _ _ _ _ _ _ _ _ (HA.out.new (by repeat (first | with_reducible exact New.refl _ | with_reducible assumption | refine New.drewN ?_ _ | refine New.drew ?_ | refine New.alloc ?_ _ | refine New.setCell ?_ (by first | omega | (simp; omega) | (simp; done)) _ | (refine New.trans ?_ (by assumption))))) (HB.out.new (by repeat (first | with_reducible exact New.refl _ | with_reducible assumption | refine New.drewN ?_ _ | refine New.drew ?_ | refine New.alloc ?_ _ | refine New.setCell ?_ (by first | omega | (simp; omega) | (simp; done)) _ | (refine New.trans ?_ (by assumption)))))).mono ?_
    rintro e w1 ⟨rfl, n1⟩
    have c0 : w1.cell? ⟨w.heap.size + 1 + 1, 0, none⟩ = some (.slice none 0 0) := n1.cell (by simp [go_sem])
    have c1 : w1.cell? ⟨w.heap.size + 1 + 1, 1, none⟩ = some (.slice none 0 0) := n1.cell (by simp [go_sem])
    have f0 : w1.frozen? ⟨w.heap.size + 1 + 1, 0, none⟩ = false := n1.frz (v := .slice none 0 0) (by simp [go_sem]) (by simp [go_sem])
    have f1 : w1.frozen? ⟨w.heap.size + 1 + 1, 1, none⟩ = false := n1.frz (v := .slice none 0 0) (by simp [go_sem]) (by simp [go_sem])
    have nw : New w w1 := New.trans (by repeat (first | with_reducible exact New.refl _ | with_reducible assumption | refine New.drewN ?_ _ | refine New.drew ?_ | refine New.alloc ?_ _ | refine New.setCell ?_ (by first | omega | (simp; omega) | (simp; done)) _ | (refine New.trans ?_ (by assumption)))) n1
    have N1 := Lib.hid nw; clear n1 nw
    go_wp2
    have nn := N1.out
    exact bodyPost_ret (v := .tuple #[.agg #[.slice none 0 0, .slice none 0 0], .bool false]) (by simp [results, Try.results24, go_sem, c0, c1]) rfl ⟨none, 0, 0, none, 0, 0, rfl, OwnV.nil _ _ _, (by repeat (first | with_reducible exact New.refl _ | with_reducible assumption | refine New.drewN ?_ _ | refine New.drew ?_ | refine New.alloc ?_ _ | refine New.setCell ?_ (by first | omega | (simp; omega) | (simp; done)) _ | (refine New.trans ?_ (by assumption))))⟩

theorem makeM_small (S H : List Int) (f t : Int) : (makeM S H f t).1.length ≤ 1048576 ∧ (makeM S H f t).2.1.length ≤ 1048576 := by
  by_cases h : askedB S H f t = true
  · rw [makeM_yes h]
    obtain ⟨hg, _⟩ := askedB_iff.1 h
    have h1 := hg.1
    have h2 := hg.2.1
    have h3 := poured_length S H f t
    exact ⟨by show S.length ≤ _; omega, by show (poured S H f t).length ≤ _; omega⟩
  · rw [makeM_no (by simpa using h)]
    exact ⟨by simp, by simp⟩
end Go.Proofs.Ytnbppimaachdhaa
