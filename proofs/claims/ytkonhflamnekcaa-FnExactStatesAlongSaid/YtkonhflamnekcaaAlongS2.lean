/- The model's list of vessels along moves: veAlong. -/
import Derived.Test.YtkonhflamnekcaaAlongS
namespace Go.Proofs.Ytkonhflamnekcaa
open Go.RowKit

theorem Try.infoVes : (Try.prog.info? 28).map (fun i => (i.zero, i.size, i.bytes)) = some (some (.agg #[.slice none 0 0, .slice none 0 0]), 2, 48) := by kernel_rfl

def RetA (w : World) (S : List Int) (A : Nat → List Int) (N : Nat) (e : Ending) (w' : World) : Prop := ∃ v, e = .returned v ∧ VesL w' w.heap.size v N S A ∧ New w w'

set_option maxRecDepth 100000 in
set_option maxHeartbeats 8000000 in
theorem veAlong_any (w : World) (aa ab ma : Option Addr) (n m ca cb mn mc : Nat) (S H : List Int) (L : List (Int × Int)) (h1 : Ints w aa n ca S) (h2 : Ints w ab m cb H) (h3 : Pairs w ma mn mc L) (hmv : movesB S H L = true) :
    Calls Try.prog 43 #[.agg #[.slice aa n ca, .slice ab m cb], .slice ma mn mc] w (RetA w S (along S H L) (L.length + 1)) := by
  obtain ⟨hG, h100, hok⟩ := movesB_iff.1 hmv
  have hn := h1.len
  have hmm := h2.len
  have hmn := h3.len
  have q5 : n ≤ 5 := by have := hG.1; omega
  have q6 : m ≤ 5 := by have := hG.1; have := hG.2.1; omega
  have qm : mn ≤ 100 := by omega
  have HA := Lib.hid h1; clear h1
  have HB := Lib.hid h2; clear h2
  have HM := Lib.hid h3; clear h3
  have HG := Lib.hid hG; clear hG
  have HOK := Lib.hid hok; clear hok
  have HN := Lib.hid (And.intro hn (And.intro hmm hmn)); clear hn hmm hmn h100 hmv
  obtain ⟨i0, hi, hz0, hz1, hz2⟩ := info_parts Try.infoVes
  obtain ⟨w1, hw1⟩ : ∃ w1, w1 = w.alloc (.cells #[.slice aa n ca, .slice ab m cb] 28) := ⟨_, rfl⟩
  have c0 : w1.cell? ⟨w.heap.size, 0, none⟩ = some (.slice aa n ca) := by rw [hw1]; simp
  have c1 : w1.cell? ⟨w.heap.size, 1, none⟩ = some (.slice ab m cb) := by rw [hw1]; simp
  have f0 : w1.frozen? ⟨w.heap.size, 0, none⟩ = false := by rw [hw1]; simp
  have f1 : w1.frozen? ⟨w.heap.size, 1, none⟩ = false := by rw [hw1]; simp
  have s1 : w1.heap.size = w.heap.size + 1 := by rw [hw1]; simp
  have N1 := Lib.hid (show New w w1 by rw [hw1]; exact (by repeat (first | with_reducible exact New.refl _ | with_reducible assumption | refine New.drewN ?_ _ | refine New.drew ?_ | refine New.alloc ?_ _ | refine New.setCell ?_ (by first | omega | (simp; omega) | (simp; done)) _ | (refine New.trans ?_ (by assumption)))))
  have HW := Lib.hid hw1; clear hw1
  have S1 := Lib.hid s1; clear s1
  have C1 := Lib.hid (And.intro c0 (And.intro c1 (And.intro f0 f1))); clear f0 f1
  have HA1 := Lib.hid (HA.out.new N1.out)
  have HB1 := Lib.hid (HB.out.new N1.out)
  go_enter Try.func43, Try.ntmps43
  go_upto_region 1 with fail
  rw [← HW.out]
  go_cut [5] (fun p W => ∃ (w3 : World) (sa : Option Addr) (sc : Nat) (sb : Option Addr) (sd : Nat), p = .slice (some ⟨w3.heap.size, 0, none⟩) 1 1 ∧ W = w3.alloc (.cells #[.slice sa n sc, .slice sb m sd] 28) ∧ OwnV w3 w1.heap.size w3.heap.size sa n sc sb m sd S H ∧ New w1 w3)
  case first =>
    go_region_held3 (fun w' => w'.cell? ⟨w.heap.size, 0, none⟩ = some (.slice aa n ca) ∧ w'.cell? ⟨w.heap.size, 1, none⟩ = some (.slice ab m cb)) (first | exact ⟨c0, c1⟩ | exact ⟨d0, d1⟩ | exact ⟨e0, e1⟩ | exact ⟨World.cell_kept e0, World.cell_kept e1⟩ | fail)
      (first
        | (go_at_call 65; refine (l1Own_any _ _ _ _ S ?_ ?_).mono ?_; exact HA1.out.new (by repeat (first | with_reducible exact New.refl _ | with_reducible assumption | refine New.drewN ?_ _ | refine New.drew ?_ | refine New.alloc ?_ _ | refine New.setCell ?_ (by first | omega | (simp; omega) | (simp; done)) _ | (refine New.trans ?_ (by assumption)))); omega; rintro e w2 ⟨sa, sc, rfl, o2, n2⟩; (try replace n2 := New.undrew n2); have d0 : w2.cell? ⟨w.heap.size, 0, none⟩ = some (.slice aa n ca) := n2.cell c0; have d1 : w2.cell? ⟨w.heap.size, 1, none⟩ = some (.slice ab m cb) := n2.cell c1)
        | (go_at_call 65; refine (l1Own_any _ _ _ _ H ?_ ?_).mono ?_; exact HB1.out.new (by repeat (first | with_reducible exact New.refl _ | with_reducible assumption | refine New.drewN ?_ _ | refine New.drew ?_ | refine New.alloc ?_ _ | refine New.setCell ?_ (by first | omega | (simp; omega) | (simp; done)) _ | (refine New.trans ?_ (by assumption)))); omega; rintro e w3 ⟨sb, sd, rfl, o3, n3⟩; (try replace n3 := New.undrew n3); have e0 : w3.cell? ⟨w.heap.size, 0, none⟩ = some (.slice aa n ca) := n3.cell d0; have e1 : w3.cell? ⟨w.heap.size, 1, none⟩ = some (.slice ab m cb) := n3.cell d1))
    all_goals (go_wp2_with fail; go_meet)
    all_goals
      have n12 : New w1 w2 := by first | exact n2 | exact New.undrew n2
      have n23 : New w2 w3 := by first | exact n3 | exact New.undrew n3
      simp only [World.size_drew] at o2 o3
      have y2 := n12.size
      have y3 := n23.size
      exact ⟨w3, sa, sc, sb, sd, rfl, rfl, OwnV.two o2 o3 n23 (Nat.le_refl _) (Nat.le_refl _) y2 y3, n12.trans n23⟩
  case rest =>
    obtain ⟨w3, sa, sc, sb, sd, rfl, hw4, o3, n3⟩ := hcut
    obtain ⟨w4, rfl⟩ : ∃ u : World, u = wc := ⟨_, rfl⟩
    have N3 := Lib.hid n3
    have O3 := Lib.hid o3
    have z3 := n3.size
    have z4 : w4.heap.size = w3.heap.size + 1 := by rw [hw4]; simp
    have s1 := S1.out
    have N4 := Lib.hid (show New w3 w4 by rw [hw4]; exact (New.refl _).alloc _)
    have row : w4.ownsRow (w.heap.size + 1) 28 2 (.slice (some ⟨w3.heap.size, 0, none⟩) 1 1) 1 (flatPQ (fun _ => .slice sa n sc) (fun _ => .slice sb m sd) 1) := by
      rw [hw4]
      exact ⟨rfl, .inr ⟨w3.heap.size, 1, _, rfl, by omega, heap_alloc_new _ _, Nat.le_refl _, by unfold maxLen; omega, rfl, rfl⟩⟩
    have ves : Ves w4 (w.heap.size + 1) (some w3.heap.size) S H (.slice sa n sc) (.slice sb m sd) := by
      refine ⟨_, _, _, _, _, _, rfl, rfl, (o3.new N4.out).mono (by omega) N4.out.size, fun hn e => ?_, fun hm e => ?_⟩
      · have := (o3.1.bounds hn e).2; omega
      · have := (o3.2.1.bounds hm e).2; omega
    have HR := Lib.hid row; clear row
    have HV := Lib.hid ves; clear ves
    have Z4 := Lib.hid z4; clear z4 s1 hw4 n3 o3
    go_wp2
    go_loopw [5, 18] (fun v i wr => ∃ (k : Nat) (P Q : Nat → Value) (xa : Option Addr) (xc : Nat) (xb : Option Addr) (xd : Nat), k ≤ mn ∧ i = .int .i64 k ∧ New w wr ∧ w.heap.size < wr.heap.size ∧
      wr.cell? ⟨w.heap.size, 0, none⟩ = some (.slice xa n xc) ∧ wr.cell? ⟨w.heap.size, 1, none⟩ = some (.slice xb m xd) ∧ wr.frozen? ⟨w.heap.size, 0, none⟩ = false ∧ wr.frozen? ⟨w.heap.size, 1, none⟩ = false ∧
      Ints wr xa n xc S ∧ Ints wr xb m xd (along S H L k) ∧ wr.ownsRow (w.heap.size + 1) 28 2 v (k + 1) (flatPQ P Q (k + 1)) ∧ ∀ j, j < k + 1 → Ves wr (w.heap.size + 1) v.ownBlock S (along S H L j) (P j) (Q j)) (fun _ i _ => mn - (intOf i).toNat)
    case atStart =>
      have n14 := N3.out.trans N4.out
      obtain ⟨r0, r1, r2, r3⟩ := New.boxed n14 C1.out.1 C1.out.2.1 C1.out.2.2.1 C1.out.2.2.2
      refine ⟨0, _, _, aa, ca, ab, cb, Nat.zero_le _, rfl, N1.out.trans n14, by have := n14.size; have := S1.out; omega, r0, r1, r2, r3, HA1.out.new n14, HB1.out.new n14, HR.out, fun j hj => ?_⟩
      obtain rfl : j = 0 := by omega
      exact HV.out
    case round =>
      obtain ⟨k, P, Q, xa, xc, xb, xd, hk, rfl, hnw, zq, a0, a1, f0, f1, i1, i2, how, hves⟩ := hrel
      have NW := Lib.hid hnw; clear hnw
      have I1 := Lib.hid i1; clear i1
      have I2 := Lib.hid i2; clear i2
      have HO := Lib.hid how; clear how
      have HX := Lib.hid hves; clear hves
      clear c0 c1
      by_cases hlt : k < mn
      · obtain ⟨bm, om_, rfl, e0, e1⟩ := (HM.out.new NW.out).2.2.2.1 k hlt
        obtain ⟨p, hp⟩ : ∃ p, p = L[k]?.getD (0, 0) := ⟨_, rfl⟩
        have ok := movesOk_at HOK.out (show k < L.length by have := HN.out.2.2; omega)
        have hal := along_succ S H L k p.1 p.2 hp.symm
        rw [← hp] at e0 e1 ok
        obtain ⟨f, t⟩ := p
        simp only at e0 e1 ok hal
        have OK := Lib.hid ok; clear ok
        have HP := Lib.hid hp; clear hp
        have AL := Lib.hid hal; clear hal
        have hgk := Lib.hid (along_good HG.out HOK.out k (by have := HN.out.2.2; omega))
        go_wp2_with fail
        refine (veMake_any _ _ _ _ _ _ _ S (along S H L k) f t (I1.out.new (by repeat (first | with_reducible exact New.refl _ | with_reducible assumption | refine New.drewN ?_ _ | refine New.drew ?_ | refine New.alloc ?_ _ | refine New.setCell ?_ (by first | omega | (simp; omega) | (simp; done)) _ | (refine New.trans ?_ (by assumption))))) (I2.out.new (by repeat (first | with_reducible exact New.refl _ | with_reducible assumption | refine New.drewN ?_ _ | refine New.drew ?_ | refine New.alloc ?_ _ | refine New.setCell ?_ (by first | omega | (simp; omega) | (simp; done)) _ | (refine New.trans ?_ (by assumption))))) hgk.out OK.out).mono ?_
        rw [← AL.out]
        rintro e w7 ⟨pa, pc, pb, pd, rfl, o7, n7⟩
        have zw := n7.size
        simp only [World.size_alloc] at zw
        have N7 := Lib.hid (show New wr w7 from New.trans (by repeat (first | with_reducible exact New.refl _ | with_reducible assumption | refine New.drewN ?_ _ | refine New.drew ?_ | refine New.alloc ?_ _ | refine New.setCell ?_ (by first | omega | (simp; omega) | (simp; done)) _ | (refine New.trans ?_ (by assumption)))) n7)
        have b0 := N7.out.cell a0
        have b1 := N7.out.cell a1
        have g0 := N7.out.frz a0 f0
        have g1 := N7.out.frz a1 f1
        have O7 := Lib.hid o7
        have x1 : ∀ b, n ≠ 0 → blkOf pa = some b → wr.heap.size < b ∧ b < w7.heap.size := fun b hn hb => by have := o7.1.bounds hn hb; simp at this; omega
        have x2 : ∀ b, m ≠ 0 → blkOf pb = some b → wr.heap.size < b ∧ b < w7.heap.size := fun b hn hb => by have := o7.2.1.bounds hn hb; simp at this; omega
        have X7 := Lib.hid (And.intro x1 x2)
        clear o7 n7 x1 x2 a0 a1 f0 f1 e0 e1
        obtain ⟨W8, hW8⟩ : ∃ W8, W8 = (w7.setCell ⟨w.heap.size, 0, none⟩ (.slice pa n pc)).setCell ⟨w.heap.size, 1, none⟩ (.slice pb m pd) := ⟨_, rfl⟩
        have k8 : Chg (fun b => b = w.heap.size) w7 W8 := by rw [hW8]; exact (Chg.setCell (p := ⟨w.heap.size, 0, none⟩) _).trans (Chg.setCell (p := ⟨w.heap.size, 1, none⟩) _)
        have y0 : W8.cell? ⟨w.heap.size, 0, none⟩ = some (.slice pa n pc) := by rw [hW8, set_other (by simp)]; exact set_same b0
        have y1 : W8.cell? ⟨w.heap.size, 1, none⟩ = some (.slice pb m pd) := by rw [hW8]; exact set_same (u := .slice xb m xd) (by rw [set_other (by simp)]; exact b1)
        have y2 : W8.frozen? ⟨w.heap.size, 0, none⟩ = false := by rw [hW8]; simpa using g0
        have y3 : W8.frozen? ⟨w.heap.size, 1, none⟩ = false := by rw [hW8]; simpa using g1
        have Y8 := Lib.hid (And.intro y0 (And.intro y1 (And.intro y2 y3)))
        have z8 := k8.size
        have N8 := Lib.hid (Chg.new (NW.out.trans N7.out) k8 (fun i hi => by omega))
        have HO7 := ownsRow_new HO.out N7.out
        have HO8 := Lib.hid (ownsRow_block HO7 fun g e => k8.block g (HO7.lt g e).2 (by have := (HO7.lt g e).1; omega))
        have HX8 := Lib.hid (show ∀ j, j < k + 1 → Ves W8 (w.heap.size + 1) _ S (along S H L j) (P j) (Q j) from fun j hj => ((HX.out j hj).new N7.out).chg k8 (fun b h1 h2 => by omega))
        have HN8 := Lib.hid (show Ves W8 (w.heap.size + 1) (Value.ownBlock _) S (along S H L (k + 1)) (.slice pa n pc) (.slice pb m pd) from
          ⟨_, _, _, _, _, _, rfl, rfl, ((O7.out.chg k8 (fun b h1 _ h => by simp at h1; omega)).mono (by simp; omega) z8), fun hn e => by
            cases hbk : blkOf pa with
            | none => exact O7.out.1.has hn hbk
            | some b => have q1 := X7.out.1 b hn hbk; have q2 := (HO.out.lt b (e.symm.trans hbk)).2; omega, fun hm e => by
            cases hbk : blkOf pb with
            | none => exact O7.out.2.1.has hm hbk
            | some b => have q1 := X7.out.2 b hm hbk; have q2 := (HO.out.lt b (e.symm.trans hbk)).2; omega⟩)
        have H8 := Lib.hid hW8; clear hW8 HO7 k8 y0 y1 y2 y3
        go_upto_region 6 with fail
        rw [← H8.out]
        obtain ⟨y0, y1, y2, y3⟩ := Y8.out
        clear b0 b1 g0 g1
        have z9 : w.heap.size < W8.heap.size := by omega
        go_wp2_with (at_builtin; refine wpList_append_lies _ (by rfl) (.tmp 25) (.tmp 27) 39 (by rfl) (w.heap.size + 1) 28 i0 _ 2 48 Try.underlying39 hi hz0 hz1 hz2 rfl (by decide) _ _ _ (by rfl) (ownsRow_new HO8.out (by repeat (first | with_reducible exact New.refl _ | with_reducible assumption | refine New.drewN ?_ _ | refine New.drew ?_ | refine New.alloc ?_ _ | refine New.setCell ?_ (by first | omega | (simp; omega) | (simp; done)) _ | (refine New.trans ?_ (by assumption))))) _ _ _ [.slice pa n pc, .slice pb m pd] (by rfl) (by rfl) (World.news_of_block (cs := #[.slice pa n pc, .slice pb m pd]) (t := 28) (fr := (0, 0)) (heap_alloc_new W8 _)) (by simp [Value.oneCell']) (by omega) (by unfold maxLen; omega) (by omega) (by simp; omega) _ rfl ?_; intro g cap w' ho hg hb hlt')
        go_roundw
        case rel =>
          have ne : some w.heap.size ≠ Value.ownBlock _ := fun e => by have := (HO8.out.lt _ e.symm).1; omega
          have nv := (HN8.out.new (show New W8 _ from (by repeat (first | with_reducible exact New.refl _ | with_reducible assumption | refine New.drewN ?_ _ | refine New.drew ?_ | refine New.alloc ?_ _ | refine New.setCell ?_ (by first | omega | (simp; omega) | (simp; done)) _ | (refine New.trans ?_ (by assumption)))))).grown hg hb
          obtain ⟨_, _, _, _, _, _, e1, e2, ov, _, _⟩ := id nv
          cases e1
          cases e2
          refine ⟨k + 1, fun j => if j = k + 1 then .slice pa n pc else P j, fun j => if j = k + 1 then .slice pb m pd else Q j, pa, pc, pb, pd, by omega, by go_num, New.grown (w := _) (N8.out.trans (by repeat (first | with_reducible exact New.refl _ | with_reducible assumption | refine New.drewN ?_ _ | refine New.drew ?_ | refine New.alloc ?_ _ | refine New.setCell ?_ (by first | omega | (simp; omega) | (simp; done)) _ | (refine New.trans ?_ (by assumption))))) (ownsRow_new HO8.out (by repeat (first | with_reducible exact New.refl _ | with_reducible assumption | refine New.drewN ?_ _ | refine New.drew ?_ | refine New.alloc ?_ _ | refine New.setCell ?_ (by first | omega | (simp; omega) | (simp; done)) _ | (refine New.trans ?_ (by assumption))))) (by omega) hg,
            by have := hg.size; simp at this; omega, hg.cell (World.cell_kept y0) ne, hg.cell (World.cell_kept y1) ne, (hg.frozen_far _ (by simp; omega) ne).trans (New.frz (by repeat (first | with_reducible exact New.refl _ | with_reducible assumption | refine New.drewN ?_ _ | refine New.drew ?_ | refine New.alloc ?_ _ | refine New.setCell ?_ (by first | omega | (simp; omega) | (simp; done)) _ | (refine New.trans ?_ (by assumption)))) y0 y2), (hg.frozen_far _ (by simp; omega) ne).trans (New.frz (by repeat (first | with_reducible exact New.refl _ | with_reducible assumption | refine New.drewN ?_ _ | refine New.drew ?_ | refine New.alloc ?_ _ | refine New.setCell ?_ (by first | omega | (simp; omega) | (simp; done)) _ | (refine New.trans ?_ (by assumption)))) y1 y3), ov.1.ints, ov.2.1.ints, ?_, fun j hj => ?_⟩
          · rw [flatPQ, flatPQ_congr (P := P) (Q := Q) (fun j hj => by simp [show ¬ j = k + 1 by omega])]
            simpa using ho
          · by_cases e : j = k + 1
            · subst e
              show Ves _ _ (some g) _ _ _ _
              simpa using nv
            · simp only [e, if_false]
              exact ((HX8.out j (by omega)).new (show New W8 _ from (by repeat (first | with_reducible exact New.refl _ | with_reducible assumption | refine New.drewN ?_ _ | refine New.drew ?_ | refine New.alloc ?_ _ | refine New.setCell ?_ (by first | omega | (simp; omega) | (simp; done)) _ | (refine New.trans ?_ (by assumption)))))).grown hg hb
        case measure => simp [intOf]; omega
      · obtain rfl : k = mn := by omega
        have hv := VesL.of_row HO.out (by omega) (Nat.le_refl _) HX.out
        have HV2 := Lib.hid hv; clear hv
        have E2 := Lib.hid HN.out.2.2
        go_wp2
        go_ret
        refine ⟨_, rfl, ?_, NW.out⟩
        rw [← E2.out]
        obtain ⟨b, cap, e, q1, q2, q3, q4⟩ := HV2.out
        exact ⟨b, cap, e, q1, by omega, q3, fun j hj => by
          obtain ⟨p, q, c1, c2, sa, n', sc, sb, m', sd, e1, e2, o, b1, b2⟩ := q4 j hj
          exact ⟨p, q, c1, c2, sa, n', sc, sb, m', sd, e1, e2, o.mono (by omega) (Nat.le_refl _), b1, b2⟩⟩
end Go.Proofs.Ytkonhflamnekcaa
