/- ParseVessels: texts that are read back. Nothing here speaks of the program. -/
import Derived.Test.YtknjobpdbbjeoaaDoorTextS
namespace Go.Proofs.YtknjobpdbbjeoaaDoor
open Go.RowKit

/-- The byte at i, or nought. -/
def byA (s : ByteArray) (i : Nat) : UInt8 := s.data.toList.getD i 0
theorem getD_toNat (s : ByteArray) (i : Nat) (hi : i < s.size) : (s[i]'hi).toNat = (byA s i).toNat := by
  obtain ⟨⟨l⟩⟩ := s
  have hl : i < l.length := hi
  have e : (ByteArray.mk ⟨l⟩)[i]'hi = l.getD i 0 := by
    simp only [List.getD, List.getElem?_eq_getElem hl, Option.getD_some]
    rfl
  rw [e]; rfl
/-- What the reader holds behind a byte: the sizes and the amounts that it has read, and a number that it is reading. -/
def pvStep (st : (List Int × List Int) × Int) (b : UInt8) : (List Int × List Int) × Int :=
  if b.toNat = 44 then ((st.1.1 ++ [st.2], st.1.2), 0)
  else if b.toNat = 47 then ((st.1.1, st.1.2 ++ [st.2]), 0)
  else if 48 ≤ b.toNat ∧ b.toNat ≤ 57 then (st.1, min 1000 (10 * st.2 + ((b.toNat : Int) - 48)))
  else st
def pvF (l : List UInt8) : (List Int × List Int) × Int := l.foldl pvStep (([], []), 0)
def pvK (s : ByteArray) (k : Nat) : (List Int × List Int) × Int := pvF (s.data.toList.take k)
def pvS (s : ByteArray) : List Int := (pvK s s.size).1.1 ++ [(pvK s s.size).2]
def pvH (s : ByteArray) : List Int := (pvK s s.size).1.2
theorem pvK_zero (s : ByteArray) : pvK s 0 = (([], []), 0) := rfl
theorem pvK_succ {s : ByteArray} {k : Nat} (hk : k < s.size) : pvK s (k + 1) = pvStep (pvK s k) (byA s k) := by
  have hl : k < s.data.toList.length := by simpa using hk
  unfold pvK pvF byA
  rw [List.take_succ_eq_append_getElem hl, List.foldl_append, List.getD_eq_getElem?_getD, List.getElem?_eq_getElem hl]
  rfl
theorem pvK_all (s : ByteArray) : pvK s s.size = pvF s.data.toList := by
  unfold pvK
  rw [List.take_of_length_le (by simp)]
theorem pvK_bd (s : ByteArray) (k : Nat) (hk : k ≤ s.size) : (pvK s k).1.1.length ≤ k ∧ (pvK s k).1.2.length ≤ k ∧ 0 ≤ (pvK s k).2 ∧ (pvK s k).2 ≤ 1000 := by
  induction k with
  | zero => rw [pvK_zero]; exact ⟨Nat.le_refl _, Nat.le_refl _, by decide, by decide⟩
  | succ k ih =>
    obtain ⟨a, b, c, d⟩ := ih (by omega)
    rw [pvK_succ (by omega)]
    unfold pvStep
    split
    · simp only [List.length_append, List.length_singleton]; omega
    · split
      · simp only [List.length_append, List.length_singleton]; omega
      · split
        · refine ⟨?_, ?_, ?_, ?_⟩ <;> simp only <;> omega
        · omega

theorem pv_dig (A : List Int × List Int) (n : Int) {d : Nat} (hd : d < 10) : pvStep (A, n) (UInt8.ofNat (48 + d)) = (A, min 1000 (10 * n + (d : Int))) := by
  have e : (UInt8.ofNat (48 + d)).toNat = 48 + d := by
    rw [UInt8.toNat_ofNat']; omega
  unfold pvStep
  rw [e, if_neg (by omega), if_neg (by omega), if_pos (by omega)]
  simp only
  congr 2
  omega
theorem pv_num (A : List Int × List Int) {k : Nat} (hk : k < 100) : (numT k).data.toList.foldl pvStep (A, 0) = (A, (k : Int)) := by
  unfold numT
  by_cases h : k < 10
  · rw [Lib.decDigits_one h]
    simp only [List.foldl_cons, List.foldl_nil]
    rw [pv_dig A 0 h]
    congr 1; omega
  · rw [Lib.decDigits_two (by omega) hk]
    simp only [List.foldl_cons, List.foldl_nil]
    rw [pv_dig A 0 (show k / 10 < 10 by omega), pv_dig A _ (show k % 10 < 10 by omega)]
    congr 1; omega
theorem pv_piece (A B : List Int) {S H : List Int} (hg : Good S H) {k : Nat} (hk : k < S.length) : (pieceT S H k).data.toList.foldl pvStep ((A, B), 0) = ((A, B ++ [H[k]?.getD 0]), S[k]?.getD 0) := by
  obtain ⟨s, h, es, eh, b1, b2, b3⟩ := hg.nats hk
  rw [pieceT_eq es eh, es, eh]
  have e : (numT h ++ ⟨#[47]⟩ ++ numT s).data.toList = (numT h).data.toList ++ ([47] ++ (numT s).data.toList) := by simp
  rw [e, List.foldl_append, pv_num _ (by omega), List.foldl_append]
  show (numT s).data.toList.foldl pvStep (pvStep ((A, B), (h : Int)) 47) = _
  rw [show pvStep ((A, B), (h : Int)) 47 = ((A, B ++ [(h : Int)]), 0) from rfl, pv_num _ (by omega)]
theorem pv_out {S H : List Int} (hg : Good S H) : ∀ k : Nat, k < S.length → pvF (outT S H (k + 1)).data.toList = ((S.take k, H.take (k + 1)), S[k]?.getD 0)
  | 0, hk => by
    show pvF ((outT S H 0) ++ pieceT S H 0).data.toList = _
    rw [show (outT S H 0) ++ pieceT S H 0 = pieceT S H 0 from by apply ByteArray.ext; simp [outT]]
    unfold pvF
    rw [pv_piece [] [] hg hk]
    have hH : 0 < H.length := by have := hg.2.1; omega
    cases H with
    | nil => simp at hH
    | cons a r => rfl
  | k + 1, hk => by
    have hr := pv_out hg k (by omega)
    have hH : k + 1 < H.length := by have := hg.2.1; omega
    have e : (outT S H (k + 1 + 1)).data.toList = (outT S H (k + 1)).data.toList ++ ([44] ++ (pieceT S H (k + 1)).data.toList) := by
      rw [show outT S H (k + 1 + 1) = (if k + 1 = 0 then outT S H (k + 1) else outT S H (k + 1) ++ ⟨#[44]⟩) ++ pieceT S H (k + 1) from rfl, if_neg (by omega)]
      simp
    unfold pvF at hr ⊢
    rw [e, List.foldl_append, hr, List.foldl_append]
    show (pieceT S H (k + 1)).data.toList.foldl pvStep (pvStep ((S.take k, H.take (k + 1)), S[k]?.getD 0) 44) = _
    rw [show pvStep ((S.take k, H.take (k + 1)), S[k]?.getD 0) 44 = ((S.take k ++ [S[k]?.getD 0], H.take (k + 1)), 0) from rfl, pv_piece _ _ hg hk]
    congr 2
    · rw [List.take_succ_eq_append_getElem (show k < S.length by omega), List.getElem?_eq_getElem (show k < S.length by omega)]; rfl
    · rw [List.take_succ_eq_append_getElem hH, List.getElem?_eq_getElem hH]; rfl

/-- A text is that of the vessels that are read out of it. -/
theorem pv_back {S H : List Int} (hg : Good S H) {s : ByteArray} (h : outT S H S.length = s) : pvS s = S ∧ pvH s = H := by
  have h1 := hg.1
  obtain ⟨k, hk⟩ : ∃ k, S.length = k + 1 := ⟨S.length - 1, by omega⟩
  have hb := pv_out hg k (by omega)
  rw [hk] at h
  rw [h, ← pvK_all] at hb
  unfold pvS pvH
  rw [hb]
  have hH := hg.2.1
  refine ⟨?_, ?_⟩
  · simp only
    have : S.take k ++ [S[k]?.getD 0] = S.take (k + 1) := by
      rw [List.take_succ_eq_append_getElem (show k < S.length by omega), List.getElem?_eq_getElem (show k < S.length by omega)]; rfl
    rw [this, List.take_of_length_le (by omega)]
  · simp only
    rw [List.take_of_length_le (by omega)]
def pvB (s : ByteArray) : Bool := goodB (pvS s) (pvH s) && decide (outT (pvS s) (pvH s) (pvS s).length = s)
def pvMS (s : ByteArray) : List Int := if pvB s then pvS s else []
def pvMH (s : ByteArray) : List Int := if pvB s then pvH s else []
theorem pv_yes {S H : List Int} {s : ByteArray} (hg : Good S H) (h : outT S H S.length = s) : pvB s = true ∧ pvMS s = S ∧ pvMH s = H := by
  obtain ⟨e1, e2⟩ := pv_back hg h
  have hb : pvB s = true := by unfold pvB; rw [e1, e2, goodB_iff.2 hg, decide_eq_true h]; rfl
  exact ⟨hb, by unfold pvMS; rw [if_pos hb, e1], by unfold pvMH; rw [if_pos hb, e2]⟩
theorem pv_false {s : ByteArray} (hb : pvB s = false) : pvMS s = [] ∧ pvMH s = [] :=
  ⟨by unfold pvMS; rw [hb]; rfl, by unfold pvMH; rw [hb]; rfl⟩
theorem pv_true {s : ByteArray} (hb : pvB s = true) : Good (pvS s) (pvH s) ∧ outT (pvS s) (pvH s) (pvS s).length = s ∧ pvMS s = pvS s ∧ pvMH s = pvH s := by
  have := hb
  unfold pvB at this
  rw [Bool.and_eq_true, decide_eq_true_eq] at this
  exact ⟨goodB_iff.1 this.1, this.2, by unfold pvMS; rw [if_pos hb], by unfold pvMH; rw [if_pos hb]⟩
theorem pv_no {s : ByteArray} (h : ∀ S H, Good S H → outT S H S.length ≠ s) : pvB s = false ∧ pvMS s = [] ∧ pvMH s = [] := by
  have hb : pvB s = false := by
    cases q : pvB s
    · rfl
    · have := pv_true q; exact absurd this.2.1 (h _ _ this.1)
  exact ⟨hb, pv_false hb⟩
theorem pv_long {s : ByteArray} (h : 30 < s.size) : pvB s = false ∧ pvMS s = [] ∧ pvMH s = [] :=
  pv_no fun S H hg e => by
    have := outT_size hg S.length (Nat.le_refl _)
    have := hg.1
    rw [e] at *; omega
theorem pvM_small (s : ByteArray) : (pvMS s).length ≤ 1048576 ∧ (pvMH s).length ≤ 1048576 := by
  cases q : pvB s
  · rw [(pv_false q).1, (pv_false q).2]; exact ⟨by simp, by simp⟩
  · obtain ⟨hg, _, e1, e2⟩ := pv_true q
    rw [e1, e2]
    have h1 := hg.1
    have h2 := hg.2.1
    omega
end Go.Proofs.YtknjobpdbbjeoaaDoor
