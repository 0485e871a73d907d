/- ParseMove: the program's. -/
import Derived.Test.YtfkhpgbidgogdaaDoorPmN
namespace Go.Proofs.YtfkhpgbidgogdaaDoor
open Go.RowKit

/-- The cut at the first '>'. -/
def cutA (s : ByteArray) : ByteArray := ⟨(Lib.cut s.data.toList [62]).1.toArray⟩
def cutC (s : ByteArray) : ByteArray := ⟨(Lib.cut s.data.toList [62]).2.1.toArray⟩
theorem move_bytes {f t : Int} (h : moveB 5 f t = true) : moveT f t = endT f 116 ++ ⟨#[62]⟩ ++ endT t 100 := if_pos h
theorem move_cut {f t : Int} (h : moveB 5 f t = true) : cutA (moveT f t) = endT f 116 ∧ cutC (moveT f t) = endT t 100 := by
  rw [move_bytes h]
  obtain ⟨⟨f0, f5⟩, ⟨t0, t5⟩⟩ := moveB_in h
  have hf : f = -1 ∨ f = 0 ∨ f = 1 ∨ f = 2 ∨ f = 3 ∨ f = 4 := by omega
  have ht : t = -1 ∨ t = 0 ∨ t = 1 ∨ t = 2 ∨ t = 3 ∨ t = 4 := by omega
  rcases hf with rfl | rfl | rfl | rfl | rfl | rfl <;> rcases ht with rfl | rfl | rfl | rfl | rfl | rfl <;> first | exact ⟨rfl, rfl⟩ | exact ⟨by decide, by decide⟩
theorem cut_found {s : ByteArray} (h : cutC s ≠ ⟨#[]⟩) : s = cutA s ++ ⟨#[62]⟩ ++ cutC s := by
  rcases Lib.index_spec s.data.toList [62] with ⟨h1, _⟩ | ⟨i, h1, h2, h3, _⟩
  · exfalso
    apply h
    unfold cutC Lib.cut
    rw [h1]; rfl
  · have e : s.data.toList.drop i = 62 :: s.data.toList.drop (i + 1) := by
      cases hd : s.data.toList.drop i with
      | nil => unfold Lib.occAt at h3; rw [hd] at h3; cases h3
      | cons x r =>
        unfold Lib.occAt at h3
        rw [hd] at h3
        have hx : x = 62 := by have := h3; simp at this; exact this.symm
        have hr : s.data.toList.drop (i + 1) = r := by
          rw [← List.drop_drop, hd]; rfl
        rw [hx, hr]
    refine ByteArray.ext (Array.ext' ?_)
    unfold cutA cutC Lib.cut
    rw [h1, if_pos (by omega)]
    have q : s.data.toList = s.data.toList.take i ++ [62] ++ s.data.toList.drop (i + 1) := by
      rw [List.append_assoc, List.singleton_append, ← e, List.take_append_drop]
    simpa using q

theorem cutA_size (s : ByteArray) : (cutA s).size ≤ s.size := by
  have hl : s.data.toList.length = s.size := by simp
  show (Lib.cut s.data.toList [62]).1.length ≤ s.size
  unfold Lib.cut
  split
  · simp only [List.length_take]; omega
  · show s.data.toList.length ≤ s.size; omega
theorem cutC_size (s : ByteArray) : (cutC s).size ≤ s.size := by
  have hl : s.data.toList.length = s.size := by simp
  show (Lib.cut s.data.toList [62]).2.1.length ≤ s.size
  unfold Lib.cut
  split
  · simp only [List.length_drop]; omega
  · show 0 ≤ s.size; omega
theorem Two0.stored {w : World} {B : Nat} (h : Two0 w B) (x y : Value) (o : Obj) : (((w.setCell ⟨B, 0, none⟩ x).setCell ⟨B, 1, none⟩ y).alloc o).cell? ⟨B, 0, none⟩ = some x ∧ (((w.setCell ⟨B, 0, none⟩ x).setCell ⟨B, 1, none⟩ y).alloc o).cell? ⟨B, 1, none⟩ = some y :=
  ⟨World.cell_kept (by rw [set_other (by simp)]; exact set_same h.r0), World.cell_kept (by refine set_same (u := .int .i64 0) ?_; rw [set_other (by simp)]; exact h.r1)⟩

set_option maxRecDepth 100000 in
set_option maxHeartbeats 1000000 in
theorem iParseMove_any (w : World) (s : ByteArray) (hs : s.size ≤ 1048576) (he : PmEnv w) (hx : ∃ m, w.cell? ⟨0, 0, none⟩ = some (.int .i64 m)) : Calls Tryd.prog 5 #[.string s] w (RetPM w s) := by
  have hA : (cutA s).size ≤ 1048576 := Nat.le_trans (cutA_size s) hs
  have hC : (cutC s).size ≤ 1048576 := Nat.le_trans (cutC_size s) hs
  have HE := Lib.hid he; clear he
  obtain ⟨mx, hm⟩ := hx
  go_enter Tryd.func5, Tryd.ntmps5
  go_upto_region 1 with fail
  obtain ⟨w1, hw1⟩ : ∃ u : World, u = w.alloc (.cells #[.int .i64 0, .int .i64 0] 23) := ⟨_, rfl⟩
  rw [← hw1]
  have N1 := Lib.hid (show New w w1 by rw [hw1]; exact (New.refl _).alloc _)
  have R1 := Lib.hid (show Two0 w1 w.heap.size by rw [hw1]; exact ⟨by simp [go_sem], by simp [go_sem], by simp [go_sem], by simp [go_sem]⟩)
  clear hw1
  obtain ⟨B, hB⟩ : ∃ B, B = w.heap.size := ⟨_, rfl⟩
  have BL : w.heap.size ≤ B := by omega
  rw [← hB] at R1 ⊢
  clear hB
  have hm1 := N1.out.cell hm
  go_wp2_with fail
  refine (Tryd.strings_Cut s ⟨#[62]⟩ mx _ (by omega) hm1).mono ?_
  rintro e w2 ⟨rfl, n, hw2⟩
  have N2 := Lib.hid (show New w1 w2 by rw [hw2]; exact (New.refl _).drewN _); clear hw2
  have R2 := Lib.hid (R1.out.new N2.out)
  obtain ⟨A, hAA⟩ : ∃ A, A = cutA s := ⟨_, rfl⟩
  obtain ⟨C, hCC⟩ : ∃ C, C = cutC s := ⟨_, rfl⟩
  obtain ⟨ok0, hok0⟩ : ∃ b, b = (Lib.cut s.data.toList [62]).2.2 := ⟨_, rfl⟩
  rw [show (⟨(Lib.cut s.data.toList (⟨#[62]⟩ : ByteArray).data.toList).1.toArray⟩ : ByteArray) = A from hAA.symm, show (⟨(Lib.cut s.data.toList (⟨#[62]⟩ : ByteArray).data.toList).2.1.toArray⟩ : ByteArray) = C from hCC.symm, show (Lib.cut s.data.toList (⟨#[62]⟩ : ByteArray).data.toList).2.2 = ok0 from hok0.symm]
  rw [← hAA] at hA
  rw [← hCC] at hC
  have EA := Lib.hid hAA; have EC := Lib.hid hCC; clear hAA hCC hok0 hm hm1
  go_wp2_with fail
  refine (parseEnd_any _ A 116 hA (by decide) (HE.out.new (N1.out.trans N2.out))).mono ?_
  rintro e w3 ⟨f, okf, rfl, n3, hf⟩
  have N3 := Lib.hid (N2.out.trans n3); clear n3
  have HF := Lib.hid hf; clear hf
  go_wp2_with fail
  refine (parseEnd_any _ C 100 hC (by decide) (HE.out.new (N1.out.trans N3.out))).mono ?_
  rintro e w4 ⟨t, okt, rfl, n4, ht⟩
  have N4 := Lib.hid (N3.out.trans n4); clear n4
  have HT := Lib.hid ht; clear ht
  have R4 := Lib.hid (R1.out.new N4.out)
  have HNO := Lib.hid (show ∀ f' t', moveB 5 f' t' = true → moveT f' t' = s → A = endT f' 116 ∧ C = endT t' 100 from fun f' t' hb e => by
    rw [EA.out, EC.out, ← e]; exact move_cut hb)
  have zB := R4.out.lt
  obtain ⟨r0, r1, f0, f1⟩ := R4.out
  cases okf
  case false =>
    go_wp2
    refine bodyPost_ret (v := .tuple #[.agg #[.int .i64 0, .int .i64 0], .bool false]) (by simp [results, Tryd.results5, go_sem, (R4.out.stored _ _ _).1, (R4.out.stored _ _ _).2]) rfl ⟨0, 0, false, rfl, (((N1.out.trans N4.out).setCell (by dsimp only; omega) _).setCell (by dsimp only; omega) _).alloc _, .inr ⟨rfl, rfl, rfl, fun f' t' hb e => ?_⟩⟩
    rcases HF.out with ⟨a, _⟩ | ⟨_, b⟩
    · cases a
    · have q := moveB_in hb
      exact b f' q.1.1 q.1.2 (HNO.out f' t' hb e).1
  case true =>
   cases okt
   case false =>
    go_wp2
    refine bodyPost_ret (v := .tuple #[.agg #[.int .i64 0, .int .i64 0], .bool false]) (by simp [results, Tryd.results5, go_sem, (R4.out.stored _ _ _).1, (R4.out.stored _ _ _).2]) rfl ⟨0, 0, false, rfl, (((N1.out.trans N4.out).setCell (by dsimp only; omega) _).setCell (by dsimp only; omega) _).alloc _, .inr ⟨rfl, rfl, rfl, fun f' t' hb e => ?_⟩⟩
    rcases HT.out with ⟨a, _⟩ | ⟨_, b⟩
    · cases a
    · have q := moveB_in hb
      exact b t' q.2.1 q.2.2 (HNO.out f' t' hb e).2
   case true =>
    cases hb : moveB 5 f t
    case false =>
      have MB := Lib.hid hb; clear hb
      go_wp2_with fail
      refine (isMoveAmong_any _ 5 f t (by omega)).mono ?_
      rw [MB.out]
      rintro e w5 ⟨rfl, n5⟩
      have N5 := Lib.hid (show New w4 w5 from New.trans (by repeat (first | with_reducible exact New.refl _ | with_reducible assumption | refine New.drewN ?_ _ | refine New.drew ?_ | refine New.alloc ?_ _ | refine New.setCell ?_ (by first | omega | (simp; omega) | (simp; done)) _ | (refine New.trans ?_ (by assumption)))) n5); clear n5 r0 r1 f0 f1
      have R5 := Lib.hid (R4.out.new N5.out)
      have zB5 := R5.out.lt
      obtain ⟨r0, r1, f0, f1⟩ := R5.out
      go_wp2
      refine bodyPost_ret (v := .tuple #[.agg #[.int .i64 0, .int .i64 0], .bool false]) (by simp [results, Tryd.results5, go_sem, r0, r1]) rfl ⟨0, 0, false, rfl, (((N1.out.trans N4.out).trans N5.out).setCell (by dsimp only; omega) _).setCell (by dsimp only; omega) _, .inr ⟨rfl, rfl, rfl, fun f' t' hb e => ?_⟩⟩
      have q := moveB_in hb
      obtain ⟨eA, eC⟩ := HNO.out f' t' hb e
      rcases HF.out with ⟨_, _, _, a⟩ | ⟨a, _⟩
      · rcases HT.out with ⟨_, _, _, b⟩ | ⟨b, _⟩
        · have h1 := a f' q.1.1 q.1.2 eA
          have h2 := b t' q.2.1 q.2.2 eC
          rw [h1, h2, MB.out] at hb
          cases hb
        · cases b
      · cases a
    case true =>
      have q := moveB_in hb
      have HS := Lib.hid (show moveT f t = s by
        rcases HF.out with ⟨_, _, a, _⟩ | ⟨a, _⟩
        · rcases HT.out with ⟨_, _, b, _⟩ | ⟨b, _⟩
          · have eA := a q.1.2
            have eC := b q.2.2
            have hne : cutC s ≠ ⟨#[]⟩ := by
              rw [← EC.out, eC]
              intro e
              have := congrArg ByteArray.size e
              rw [endT_size] at this
              cases this
            rw [move_bytes hb, ← eA, ← eC, EA.out, EC.out]
            exact (cut_found hne).symm
          · cases b
        · cases a)
      have MB := Lib.hid hb; clear hb
      go_wp2_with fail
      refine (isMoveAmong_any _ 5 f t (by omega)).mono ?_
      rw [MB.out]
      rintro e w5 ⟨rfl, n5⟩
      have c0 : w5.cell? ⟨w4.heap.size, 0, none⟩ = some (.int .i64 f) := n5.cell (by simp [go_sem])
      have c1 : w5.cell? ⟨w4.heap.size, 1, none⟩ = some (.int .i64 t) := n5.cell (by simp [go_sem])
      have N5 := Lib.hid (show New w4 w5 from New.trans (by repeat (first | with_reducible exact New.refl _ | with_reducible assumption | refine New.drewN ?_ _ | refine New.drew ?_ | refine New.alloc ?_ _ | refine New.setCell ?_ (by first | omega | (simp; omega) | (simp; done)) _ | (refine New.trans ?_ (by assumption)))) n5); clear n5 r0 r1 f0 f1
      have R5 := Lib.hid (R4.out.new N5.out)
      have zB5 := R5.out.lt
      obtain ⟨r0, r1, f0, f1⟩ := R5.out
      go_wp2
      refine bodyPost_ret (v := .tuple #[.agg #[.int .i64 f, .int .i64 t], .bool true]) (by simp [results, Tryd.results5, go_sem, r0, r1]) rfl ⟨f, t, true, rfl, (((N1.out.trans N4.out).trans N5.out).setCell (by dsimp only; omega) _).setCell (by dsimp only; omega) _, .inl ⟨rfl, MB.out, HS.out⟩⟩
end Go.Proofs.YtfkhpgbidgogdaaDoor
