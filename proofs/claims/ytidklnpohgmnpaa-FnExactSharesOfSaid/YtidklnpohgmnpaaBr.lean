/- Brine: which there is; the model's and the program's test. -/
import Derived.Test.YtidklnpohgmnpaaSal
import Derived.Test.YtidklnpohgmnpaaPr
import Derived.Test.YtidklnpohgmnpaaImpl3
namespace Go.Proofs.Ytidklnpohgmnpaa
open Go.RowKit Go.IntWalk

/-- A salt that a vessel may have that holds h. -/
def SaltOk (h : Int) (r : Int × Int) : Prop := sgR r.1 r.2 = true ∧ 0 ≤ r.1 ∧ (0 < r.1 → h ≠ 0)
def BrOk (S H : List Int) (K : List (Int × Int)) : Prop := Good S H ∧ K.length = S.length ∧ ∀ j, j < S.length → SaltOk (H[j]?.getD 0) (K[j]?.getD (0, 0))
instance (h : Int) (r : Int × Int) : Decidable (SaltOk h r) := by unfold SaltOk; infer_instance
instance (S H : List Int) (K : List (Int × Int)) : Decidable (BrOk S H K) := by unfold BrOk; infer_instance
def brB (S H : List Int) (K : List (Int × Int)) : Bool := decide (BrOk S H K)
theorem brB_iff {S H : List Int} {K : List (Int × Int)} : brB S H K = true ↔ BrOk S H K := by simp [brB]
theorem brB_false {S H : List Int} {K : List (Int × Int)} : brB S H K = false ↔ ¬ BrOk S H K := by simp [brB]
abbrev brV (aa : Option Addr) (n ca : Nat) (ab : Option Addr) (m cb : Nat) (ak : Option Addr) (r ck : Nat) : Value := .agg #[.slice aa n ca, .slice ab m cb, .slice ak r ck]

set_option maxRecDepth 100000 in
set_option maxHeartbeats 2000000 in
theorem saBrine_any (w : World) (aa ab ak : Option Addr) (n m r ca cb ck : Nat) (S H : List Int) (K : List (Int × Int)) (h1 : Ints w aa n ca S) (h2 : Ints w ab m cb H) (h3 : Ratios w ak r ck K) :
    Calls Try.prog 46 #[brV aa n ca ab m cb ak r ck] w fun e w' => e = .returned (.bool (brB S H K)) ∧ New w w' := by
  have HA := Lib.hid h1; clear h1
  have HB := Lib.hid h2; clear h2
  have HK := Lib.hid h3; clear h3
  have la := Lib.hid HA.out.len
  have lb := Lib.hid HB.out.len
  have lk := Lib.hid HK.out.len
  have bn := HA.out.2.2.1
  have bk := HK.out.2.2.1
  by_cases hg : goodB S H = true
  · have hgood := goodB_iff.1 hg
    have mn : m = n := by rw [la.out, lb.out]; exact hgood.2.1
    subst mn
    have HG := Lib.hid hg
    have HGD := Lib.hid hgood
    clear hg hgood
    by_cases hr : r = m
    · subst hr
      go_enter Try.func46, Try.ntmps46
      go_wp2_with fail
      refine (veGood_any _ _ _ _ _ _ _ S H (HA.out.new (by repeat (first | with_reducible exact New.refl _ | with_reducible assumption | refine New.drewN ?_ _ | refine New.drew ?_ | refine New.alloc ?_ _ | refine New.setCell ?_ (by first | omega | (simp; omega) | (simp; done)) _ | (refine New.trans ?_ (by assumption))))) (HB.out.new (by repeat (first | with_reducible exact New.refl _ | with_reducible assumption | refine New.drewN ?_ _ | refine New.drew ?_ | refine New.alloc ?_ _ | refine New.setCell ?_ (by first | omega | (simp; omega) | (simp; done)) _ | (refine New.trans ?_ (by assumption)))))).mono ?_
      rintro e w1 ⟨rfl, n1⟩
      rw [HG.out]
      have b1 : w1.cell? ⟨w.heap.size, 1, none⟩ = some (.slice ab r cb) := n1.cell (by simp [go_sem])
      have b2 : w1.cell? ⟨w.heap.size, 2, none⟩ = some (.slice ak r ck) := n1.cell (by simp [go_sem])
      have b0 : w1.cell? ⟨w.heap.size, 0, none⟩ = some (.slice aa r ca) := n1.cell (by simp [go_sem])
      have N1 := Lib.hid (show New w w1 from New.trans (by repeat (first | with_reducible exact New.refl _ | with_reducible assumption | refine New.drewN ?_ _ | refine New.drew ?_ | refine New.alloc ?_ _ | refine New.setCell ?_ (by first | omega | (simp; omega) | (simp; done)) _ | (refine New.trans ?_ (by assumption)))) n1); clear n1
      go_wp2
      go_loopw [22] (fun i wr => ∃ k : Nat, k ≤ r ∧ i = .int .i64 (k : Int) ∧ (∀ j, j < k → SaltOk (H[j]?.getD 0) (K[j]?.getD (0, 0))) ∧ New w1 wr) (fun i _ => r - (intOf i).toNat)
      case atStart => exact ⟨0, by omega, rfl, fun j hj => absurd hj (by omega), New.refl _⟩
      case round =>
        obtain ⟨k, hk, rfl, hall, hn⟩ := hrel
        have HL := Lib.hid hall; clear hall
        have c1 := hn.cell b1
        have HN := Lib.hid hn; clear hn
        have NN := Lib.hid (N1.out.trans HN.out)
        by_cases hlt : (k : Int) < r
        · have hkr : k < r := by omega
          obtain ⟨bh, oh, e0, gh, _⟩ := (HB.out.new NN.out).at hkr
          obtain ⟨bs, os, e1, g0, g1⟩ := (HK.out.new NN.out).2.2.2.1 k hkr
          subst e0
          subst e1
          have BAD := Lib.hid (fun h : ¬ SaltOk (H[k]?.getD 0) (K[k]?.getD (0, 0)) => brB_false.2 fun hb : BrOk S H K => h (hb.2.2 k (by have := la.out; omega)))
          obtain ⟨h, hh⟩ : ∃ h, h = H[k]?.getD 0 := ⟨_, rfl⟩
          obtain ⟨p, hp⟩ : ∃ p, p = K[k]?.getD (0, 0) := ⟨_, rfl⟩
          obtain ⟨x, y⟩ := p
          rw [← hh] at gh BAD
          rw [← hp] at g0 g1 BAD
          simp only at g0 g1
          have HH := Lib.hid hh; have HP := Lib.hid hp; clear hh hp
          obtain ⟨g, hg⟩ : ∃ g, g = sgR x y := ⟨_, rfl⟩
          have HGG := Lib.hid hg; clear hg
          go_wp2_with fail
          refine (saGood_any _ x y).mono ?_
          rintro e w2 ⟨rfl, n2⟩
          rw [← HGG.out]
          replace c1 := n2.cell (World.cell_kept c1)
          have d0 : w2.cell? ⟨wr.heap.size, 0, none⟩ = some (.int .i64 x) := n2.cell (by simp)
          replace gh := n2.cell (World.cell_kept gh)
          have N2 := Lib.hid (show New w1 w2 from (HN.out.alloc _).trans n2); clear n2 g0 g1
          cases g with
          | false =>
            go_wp2
            go_ret
            exact ⟨ret_bool (BAD.out (fun q => by have := q.1; rw [← HGG.out] at this; cases this)).symm, N1.out.trans (by have := N2.out; (repeat (first | with_reducible exact New.refl _ | with_reducible assumption | refine New.drewN ?_ _ | refine New.drew ?_ | refine New.alloc ?_ _ | refine New.setCell ?_ (by first | omega | (simp; omega) | (simp; done)) _ | (refine New.trans ?_ (by assumption)))))⟩
          | true =>
            by_cases q1 : x < 0
            · go_wp2
              go_ret
              exact ⟨ret_bool (BAD.out (fun q => by have := q.2.1; simp only at this; omega)).symm, N1.out.trans (by have := N2.out; (repeat (first | with_reducible exact New.refl _ | with_reducible assumption | refine New.drewN ?_ _ | refine New.drew ?_ | refine New.alloc ?_ _ | refine New.setCell ?_ (by first | omega | (simp; omega) | (simp; done)) _ | (refine New.trans ?_ (by assumption)))))⟩
            · by_cases q3 : x > 0
              · by_cases q2 : h = 0
                · have BB := Lib.hid (BAD.out (fun q => q.2.2 q3 q2))
                  subst q2
                  go_wp2
                  go_ret
                  exact ⟨ret_bool BB.out.symm, N1.out.trans (by have := N2.out; (repeat (first | with_reducible exact New.refl _ | with_reducible assumption | refine New.drewN ?_ _ | refine New.drew ?_ | refine New.alloc ?_ _ | refine New.setCell ?_ (by first | omega | (simp; omega) | (simp; done)) _ | (refine New.trans ?_ (by assumption)))))⟩
                · have q2' : (h == 0) = false := by simpa using q2
                  have OKK := Lib.hid (show SaltOk h (x, y) from ⟨HGG.out.symm, by simp only; omega, fun _ => q2⟩)
                  clear q2
                  go_wp2
                  go_roundw
                  case rel =>
                    refine ⟨k + 1, by omega, by go_num, fun j hj => ?_, by have := N2.out; (repeat (first | with_reducible exact New.refl _ | with_reducible assumption | refine New.drewN ?_ _ | refine New.drew ?_ | refine New.alloc ?_ _ | refine New.setCell ?_ (by first | omega | (simp; omega) | (simp; done)) _ | (refine New.trans ?_ (by assumption))))⟩
                    by_cases e : j = k
                    · subst e; rw [← HH.out, ← HP.out]; exact OKK.out
                    · exact HL.out j (by omega)
                  case measure => simp [intOf]; omega
              · have OKK := Lib.hid (show SaltOk h (x, y) from ⟨HGG.out.symm, by simp only; omega, fun q => absurd q q3⟩)
                by_cases q2 : h = 0
                all_goals
                  first
                    | subst q2
                    | (have q2' : (h == 0) = false := by simpa using q2
                       clear q2)
                  go_wp2
                  go_roundw
                  case rel =>
                    refine ⟨k + 1, by omega, by go_num, fun j hj => ?_, by have := N2.out; (repeat (first | with_reducible exact New.refl _ | with_reducible assumption | refine New.drewN ?_ _ | refine New.drew ?_ | refine New.alloc ?_ _ | refine New.setCell ?_ (by first | omega | (simp; omega) | (simp; done)) _ | (refine New.trans ?_ (by assumption))))⟩
                    by_cases e : j = k
                    · subst e; rw [← HH.out, ← HP.out]; exact OKK.out
                    · exact HL.out j (by omega)
                  case measure => simp [intOf]; omega
        · obtain rfl : k = r := by omega
          have BB := Lib.hid (brB_iff.2 (show BrOk S H K from ⟨HGD.out, by rw [← lk.out, la.out], fun j hj => HL.out j (by have := la.out; omega)⟩))
          go_wp2
          go_ret
          exact ⟨ret_bool BB.out.symm, NN.out⟩
    · have BB := Lib.hid (brB_false.2 (show ¬ BrOk S H K from fun h => hr (by have := h.2.1; have := la.out; have := lk.out; omega)))
      have hr' : ((r : Int) != (m : Int)) = true := by simpa using (fun h : (r : Int) = m => hr (by omega))
      clear hr
      go_enter Try.func46, Try.ntmps46
      go_wp2_with fail
      refine (veGood_any _ _ _ _ _ _ _ S H (HA.out.new (by repeat (first | with_reducible exact New.refl _ | with_reducible assumption | refine New.drewN ?_ _ | refine New.drew ?_ | refine New.alloc ?_ _ | refine New.setCell ?_ (by first | omega | (simp; omega) | (simp; done)) _ | (refine New.trans ?_ (by assumption))))) (HB.out.new (by repeat (first | with_reducible exact New.refl _ | with_reducible assumption | refine New.drewN ?_ _ | refine New.drew ?_ | refine New.alloc ?_ _ | refine New.setCell ?_ (by first | omega | (simp; omega) | (simp; done)) _ | (refine New.trans ?_ (by assumption)))))).mono ?_
      rintro e w1 ⟨rfl, n1⟩
      rw [HG.out]
      have b0 : w1.cell? ⟨w.heap.size, 0, none⟩ = some (.slice aa m ca) := n1.cell (by simp [go_sem])
      have b2 : w1.cell? ⟨w.heap.size, 2, none⟩ = some (.slice ak r ck) := n1.cell (by simp [go_sem])
      have N1 := Lib.hid (show New w w1 from New.trans (by repeat (first | with_reducible exact New.refl _ | with_reducible assumption | refine New.drewN ?_ _ | refine New.drew ?_ | refine New.alloc ?_ _ | refine New.setCell ?_ (by first | omega | (simp; omega) | (simp; done)) _ | (refine New.trans ?_ (by assumption)))) n1); clear n1
      go_wp2
      go_ret
      exact ⟨ret_bool BB.out.symm, N1.out⟩
  · have HG := Lib.hid (bool_no hg)
    have BB := Lib.hid (brB_false.2 (show ¬ BrOk S H K from fun h => hg (goodB_iff.2 h.1)))
    clear hg
    go_enter Try.func46, Try.ntmps46
    go_wp2_with fail
    refine (veGood_any _ _ _ _ _ _ _ S H (HA.out.new (by repeat (first | with_reducible exact New.refl _ | with_reducible assumption | refine New.drewN ?_ _ | refine New.drew ?_ | refine New.alloc ?_ _ | refine New.setCell ?_ (by first | omega | (simp; omega) | (simp; done)) _ | (refine New.trans ?_ (by assumption))))) (HB.out.new (by repeat (first | with_reducible exact New.refl _ | with_reducible assumption | refine New.drewN ?_ _ | refine New.drew ?_ | refine New.alloc ?_ _ | refine New.setCell ?_ (by first | omega | (simp; omega) | (simp; done)) _ | (refine New.trans ?_ (by assumption)))))).mono ?_
    rintro e w1 ⟨rfl, n1⟩
    rw [HG.out]
    have N1 := Lib.hid (show New w w1 from New.trans (by repeat (first | with_reducible exact New.refl _ | with_reducible assumption | refine New.drewN ?_ _ | refine New.drew ?_ | refine New.alloc ?_ _ | refine New.setCell ?_ (by first | omega | (simp; omega) | (simp; done)) _ | (refine New.trans ?_ (by assumption)))) n1); clear n1
    go_wp2
    go_ret
    exact ⟨ret_bool BB.out.symm, N1.out⟩

set_option maxRecDepth 100000 in
set_option maxHeartbeats 2000000 in
theorem iIsBrine_any (w : World) (aa ab ak : Option Addr) (n m r ca cb ck : Nat) (S H : List Int) (K : List (Int × Int)) (h1 : Ints w aa n ca S) (h2 : Ints w ab m cb H) (h3 : Ratios w ak r ck K) :
    Calls Try.prog 19 #[brV aa n ca ab m cb ak r ck] w fun e w' => e = .returned (.bool (brB S H K)) ∧ New w w' := by
  have HA := Lib.hid h1; clear h1
  have HB := Lib.hid h2; clear h2
  have HK := Lib.hid h3; clear h3
  have la := Lib.hid HA.out.len
  have lb := Lib.hid HB.out.len
  have lk := Lib.hid HK.out.len
  have bn := HA.out.2.2.1
  have bk := HK.out.2.2.1
  by_cases hg : goodB S H = true
  · have hgood := goodB_iff.1 hg
    have mn : m = n := by rw [la.out, lb.out]; exact hgood.2.1
    subst mn
    have HG := Lib.hid hg
    have HGD := Lib.hid hgood
    clear hg hgood
    by_cases hr : r = m
    · subst hr
      go_enter Try.func19, Try.ntmps19
      go_wp2_with fail
      refine (iAreVessels_any _ _ _ _ _ _ _ S H (HA.out.new (by repeat (first | with_reducible exact New.refl _ | with_reducible assumption | refine New.drewN ?_ _ | refine New.drew ?_ | refine New.alloc ?_ _ | refine New.setCell ?_ (by first | omega | (simp; omega) | (simp; done)) _ | (refine New.trans ?_ (by assumption))))) (HB.out.new (by repeat (first | with_reducible exact New.refl _ | with_reducible assumption | refine New.drewN ?_ _ | refine New.drew ?_ | refine New.alloc ?_ _ | refine New.setCell ?_ (by first | omega | (simp; omega) | (simp; done)) _ | (refine New.trans ?_ (by assumption)))))).mono ?_
      rintro e w1 ⟨rfl, n1⟩
      rw [HG.out]
      have b1 : w1.cell? ⟨w.heap.size, 1, none⟩ = some (.slice ab r cb) := n1.cell (by simp [go_sem])
      have b2 : w1.cell? ⟨w.heap.size, 2, none⟩ = some (.slice ak r ck) := n1.cell (by simp [go_sem])
      have b0 : w1.cell? ⟨w.heap.size, 0, none⟩ = some (.slice aa r ca) := n1.cell (by simp [go_sem])
      have N1 := Lib.hid (show New w w1 from New.trans (by repeat (first | with_reducible exact New.refl _ | with_reducible assumption | refine New.drewN ?_ _ | refine New.drew ?_ | refine New.alloc ?_ _ | refine New.setCell ?_ (by first | omega | (simp; omega) | (simp; done)) _ | (refine New.trans ?_ (by assumption)))) n1); clear n1
      go_wp2
      go_loopw [22] (fun i wr => ∃ k : Nat, k ≤ r ∧ i = .int .i64 (k : Int) ∧ (∀ j, j < k → SaltOk (H[j]?.getD 0) (K[j]?.getD (0, 0))) ∧ New w1 wr) (fun i _ => r - (intOf i).toNat)
      case atStart => exact ⟨0, by omega, rfl, fun j hj => absurd hj (by omega), New.refl _⟩
      case round =>
        obtain ⟨k, hk, rfl, hall, hn⟩ := hrel
        have HL := Lib.hid hall; clear hall
        have c1 := hn.cell b1
        have HN := Lib.hid hn; clear hn
        have NN := Lib.hid (N1.out.trans HN.out)
        by_cases hlt : (k : Int) < r
        · have hkr : k < r := by omega
          obtain ⟨bh, oh, e0, gh, _⟩ := (HB.out.new NN.out).at hkr
          obtain ⟨bs, os, e1, g0, g1⟩ := (HK.out.new NN.out).2.2.2.1 k hkr
          subst e0
          subst e1
          have BAD := Lib.hid (fun h : ¬ SaltOk (H[k]?.getD 0) (K[k]?.getD (0, 0)) => brB_false.2 fun hb : BrOk S H K => h (hb.2.2 k (by have := la.out; omega)))
          obtain ⟨h, hh⟩ : ∃ h, h = H[k]?.getD 0 := ⟨_, rfl⟩
          obtain ⟨p, hp⟩ : ∃ p, p = K[k]?.getD (0, 0) := ⟨_, rfl⟩
          obtain ⟨x, y⟩ := p
          rw [← hh] at gh BAD
          rw [← hp] at g0 g1 BAD
          simp only at g0 g1
          have HH := Lib.hid hh; have HP := Lib.hid hp; clear hh hp
          obtain ⟨g, hg⟩ : ∃ g, g = sgR x y := ⟨_, rfl⟩
          have HGG := Lib.hid hg; clear hg
          go_wp2_with fail
          refine (iIsRatio_any _ x y).mono ?_
          rintro e w2 ⟨rfl, n2⟩
          rw [← HGG.out]
          replace c1 := n2.cell (World.cell_kept c1)
          have d0 : w2.cell? ⟨wr.heap.size, 0, none⟩ = some (.int .i64 x) := n2.cell (by simp)
          replace gh := n2.cell (World.cell_kept gh)
          have N2 := Lib.hid (show New w1 w2 from (HN.out.alloc _).trans n2); clear n2 g0 g1
          cases g with
          | false =>
            go_wp2
            go_ret
            exact ⟨ret_bool (BAD.out (fun q => by have := q.1; rw [← HGG.out] at this; cases this)).symm, N1.out.trans (by have := N2.out; (repeat (first | with_reducible exact New.refl _ | with_reducible assumption | refine New.drewN ?_ _ | refine New.drew ?_ | refine New.alloc ?_ _ | refine New.setCell ?_ (by first | omega | (simp; omega) | (simp; done)) _ | (refine New.trans ?_ (by assumption)))))⟩
          | true =>
            by_cases q1 : x < 0
            · go_wp2
              go_ret
              exact ⟨ret_bool (BAD.out (fun q => by have := q.2.1; simp only at this; omega)).symm, N1.out.trans (by have := N2.out; (repeat (first | with_reducible exact New.refl _ | with_reducible assumption | refine New.drewN ?_ _ | refine New.drew ?_ | refine New.alloc ?_ _ | refine New.setCell ?_ (by first | omega | (simp; omega) | (simp; done)) _ | (refine New.trans ?_ (by assumption)))))⟩
            · by_cases q3 : x > 0
              · by_cases q2 : h = 0
                · have BB := Lib.hid (BAD.out (fun q => q.2.2 q3 q2))
                  subst q2
                  go_wp2
                  go_ret
                  exact ⟨ret_bool BB.out.symm, N1.out.trans (by have := N2.out; (repeat (first | with_reducible exact New.refl _ | with_reducible assumption | refine New.drewN ?_ _ | refine New.drew ?_ | refine New.alloc ?_ _ | refine New.setCell ?_ (by first | omega | (simp; omega) | (simp; done)) _ | (refine New.trans ?_ (by assumption)))))⟩
                · have q2' : (h == 0) = false := by simpa using q2
                  have OKK := Lib.hid (show SaltOk h (x, y) from ⟨HGG.out.symm, by simp only; omega, fun _ => q2⟩)
                  clear q2
                  go_wp2
                  go_roundw
                  case rel =>
                    refine ⟨k + 1, by omega, by go_num, fun j hj => ?_, by have := N2.out; (repeat (first | with_reducible exact New.refl _ | with_reducible assumption | refine New.drewN ?_ _ | refine New.drew ?_ | refine New.alloc ?_ _ | refine New.setCell ?_ (by first | omega | (simp; omega) | (simp; done)) _ | (refine New.trans ?_ (by assumption))))⟩
                    by_cases e : j = k
                    · subst e; rw [← HH.out, ← HP.out]; exact OKK.out
                    · exact HL.out j (by omega)
                  case measure => simp [intOf]; omega
              · have OKK := Lib.hid (show SaltOk h (x, y) from ⟨HGG.out.symm, by simp only; omega, fun q => absurd q q3⟩)
                by_cases q2 : h = 0
                all_goals
                  first
                    | subst q2
                    | (have q2' : (h == 0) = false := by simpa using q2
                       clear q2)
                  go_wp2
                  go_roundw
                  case rel =>
                    refine ⟨k + 1, by omega, by go_num, fun j hj => ?_, by have := N2.out; (repeat (first | with_reducible exact New.refl _ | with_reducible assumption | refine New.drewN ?_ _ | refine New.drew ?_ | refine New.alloc ?_ _ | refine New.setCell ?_ (by first | omega | (simp; omega) | (simp; done)) _ | (refine New.trans ?_ (by assumption))))⟩
                    by_cases e : j = k
                    · subst e; rw [← HH.out, ← HP.out]; exact OKK.out
                    · exact HL.out j (by omega)
                  case measure => simp [intOf]; omega
        · obtain rfl : k = r := by omega
          have BB := Lib.hid (brB_iff.2 (show BrOk S H K from ⟨HGD.out, by rw [← lk.out, la.out], fun j hj => HL.out j (by have := la.out; omega)⟩))
          go_wp2
          go_ret
          exact ⟨ret_bool BB.out.symm, NN.out⟩
    · have BB := Lib.hid (brB_false.2 (show ¬ BrOk S H K from fun h => hr (by have := h.2.1; have := la.out; have := lk.out; omega)))
      have hr' : ((r : Int) != (m : Int)) = true := by simpa using (fun h : (r : Int) = m => hr (by omega))
      clear hr
      go_enter Try.func19, Try.ntmps19
      go_wp2_with fail
      refine (iAreVessels_any _ _ _ _ _ _ _ S H (HA.out.new (by repeat (first | with_reducible exact New.refl _ | with_reducible assumption | refine New.drewN ?_ _ | refine New.drew ?_ | refine New.alloc ?_ _ | refine New.setCell ?_ (by first | omega | (simp; omega) | (simp; done)) _ | (refine New.trans ?_ (by assumption))))) (HB.out.new (by repeat (first | with_reducible exact New.refl _ | with_reducible assumption | refine New.drewN ?_ _ | refine New.drew ?_ | refine New.alloc ?_ _ | refine New.setCell ?_ (by first | omega | (simp; omega) | (simp; done)) _ | (refine New.trans ?_ (by assumption)))))).mono ?_
      rintro e w1 ⟨rfl, n1⟩
      rw [HG.out]
      have b0 : w1.cell? ⟨w.heap.size, 0, none⟩ = some (.slice aa m ca) := n1.cell (by simp [go_sem])
      have b2 : w1.cell? ⟨w.heap.size, 2, none⟩ = some (.slice ak r ck) := n1.cell (by simp [go_sem])
      have N1 := Lib.hid (show New w w1 from New.trans (by repeat (first | with_reducible exact New.refl _ | with_reducible assumption | refine New.drewN ?_ _ | refine New.drew ?_ | refine New.alloc ?_ _ | refine New.setCell ?_ (by first | omega | (simp; omega) | (simp; done)) _ | (refine New.trans ?_ (by assumption)))) n1); clear n1
      go_wp2
      go_ret
      exact ⟨ret_bool BB.out.symm, N1.out⟩
  · have HG := Lib.hid (bool_no hg)
    have BB := Lib.hid (brB_false.2 (show ¬ BrOk S H K from fun h => hg (goodB_iff.2 h.1)))
    clear hg
    go_enter Try.func19, Try.ntmps19
    go_wp2_with fail
    refine (iAreVessels_any _ _ _ _ _ _ _ S H (HA.out.new (by repeat (first | with_reducible exact New.refl _ | with_reducible assumption | refine New.drewN ?_ _ | refine New.drew ?_ | refine New.alloc ?_ _ | refine New.setCell ?_ (by first | omega | (simp; omega) | (simp; done)) _ | (refine New.trans ?_ (by assumption))))) (HB.out.new (by repeat (first | with_reducible exact New.refl _ | with_reducible assumption | refine New.drewN ?_ _ | refine New.drew ?_ | refine New.alloc ?_ _ | refine New.setCell ?_ (by first | omega | (simp; omega) | (simp; done)) _ | (refine New.trans ?_ (by assumption)))))).mono ?_
    rintro e w1 ⟨rfl, n1⟩
    rw [HG.out]
    have N1 := Lib.hid (show New w w1 from New.trans (by repeat (first | with_reducible exact New.refl _ | with_reducible assumption | refine New.drewN ?_ _ | refine New.drew ?_ | refine New.alloc ?_ _ | refine New.setCell ?_ (by first | omega | (simp; omega) | (simp; done)) _ | (refine New.trans ?_ (by assumption)))) n1); clear n1
    go_wp2
    go_ret
    exact ⟨ret_bool BB.out.symm, N1.out⟩

theorem sIsBrine_any (w : World) (aa ab ak : Option Addr) (n m r ca cb ck : Nat) (S H : List Int) (K : List (Int × Int)) (h1 : Ints w aa n ca S) (h2 : Ints w ab m cb H) (h3 : Ratios w ak r ck K) :
    Calls Try.prog 17 #[brV aa n ca ab m cb ak r ck] w fun e w' => e = .returned (.bool (brB S H K)) ∧ New w w' := by
  have HA := Lib.hid h1; clear h1
  have HB := Lib.hid h2; clear h2
  have HK := Lib.hid h3; clear h3
  go_enter Try.func17, Try.ntmps17
  go_wp2_with fail
  refine (saBrine_any _ _ _ _ _ _ _ _ _ _ S H K (HA.out.new (by repeat (first | with_reducible exact New.refl _ | with_reducible assumption | refine New.drewN ?_ _ | refine New.drew ?_ | refine New.alloc ?_ _ | refine New.setCell ?_ (by first | omega | (simp; omega) | (simp; done)) _ | (refine New.trans ?_ (by assumption))))) (HB.out.new (by repeat (first | with_reducible exact New.refl _ | with_reducible assumption | refine New.drewN ?_ _ | refine New.drew ?_ | refine New.alloc ?_ _ | refine New.setCell ?_ (by first | omega | (simp; omega) | (simp; done)) _ | (refine New.trans ?_ (by assumption))))) (HK.out.new (by repeat (first | with_reducible exact New.refl _ | with_reducible assumption | refine New.drewN ?_ _ | refine New.drew ?_ | refine New.alloc ?_ _ | refine New.setCell ?_ (by first | omega | (simp; omega) | (simp; done)) _ | (refine New.trans ?_ (by assumption)))))).mono ?_
  rintro e w1 ⟨rfl, n1⟩
  have N1 := Lib.hid (show New w w1 from New.trans (by repeat (first | with_reducible exact New.refl _ | with_reducible assumption | refine New.drewN ?_ _ | refine New.drew ?_ | refine New.alloc ?_ _ | refine New.setCell ?_ (by first | omega | (simp; omega) | (simp; done)) _ | (refine New.trans ?_ (by assumption)))) n1); clear n1
  go_wp2
  go_ret
  exact ⟨rfl, N1.out⟩
end Go.Proofs.Ytidklnpohgmnpaa
