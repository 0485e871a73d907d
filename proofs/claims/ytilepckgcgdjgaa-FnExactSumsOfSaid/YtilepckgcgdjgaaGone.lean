/- The steps from a place, on numbers; what stands between them. -/
import Derived.Test.YtilepckgcgdjgaaAdd
import Derived.Test.YtilepckgcgdjgaaOnI2
import Derived.Laws.OwnMore
namespace Go.Proofs.Ytilepckgcgdjgaa
open Go.RowKit Go.Maps

theorem addsN_append (S : List Int) (L : List Node) (k : Nat) (qs rs : List (Int × Int)) (j : Nat) (hj : j ≤ qs.length) : addsN S L k (qs ++ rs) j = addsN S L k qs j := by
  induction j with
  | zero => rfl
  | succ j ih => rw [addsN, addsN, ih (by omega), List.getElem?_append_left (by omega)]
/-- What is found when the first i of the moves ps have been tried from number k. -/
def gone (S : List Int) (L : List Node) (k : Nat) (ps : List (Int × Int)) (i : Nat) : List Node :=
  addsN S L k ((ps.take i).filter (amtB S (L[k]?.getD dN).h)) ((ps.take i).filter (amtB S (L[k]?.getD dN).h)).length
theorem gone_zero (S : List Int) (L : List Node) (k : Nat) (ps : List (Int × Int)) : gone S L k ps 0 = L := rfl
theorem gone_no {S : List Int} {L : List Node} {k : Nat} {ps : List (Int × Int)} {i : Nat} (hi : i < ps.length) (h : amt S (L[k]?.getD dN).h (ps[i]?.getD (0, 0)).1 (ps[i]?.getD (0, 0)).2 = 0) : gone S L k ps (i + 1) = gone S L k ps i := by
  have ha : amtB S (L[k]?.getD dN).h (ps[i]?.getD (0, 0)) = false := by simp [amtB, h]
  unfold gone
  rw [filter_take hi (0, 0), ha, if_neg (by decide), List.append_nil]
theorem gone_yes {S : List Int} {L : List Node} {k : Nat} {ps : List (Int × Int)} {i : Nat} (hi : i < ps.length) (h : amt S (L[k]?.getD dN).h (ps[i]?.getD (0, 0)).1 (ps[i]?.getD (0, 0)).2 ≠ 0) : gone S L k ps (i + 1) = addN S (gone S L k ps i) k (ps[i]?.getD (0, 0)) := by
  have ha : amtB S (L[k]?.getD dN).h (ps[i]?.getD (0, 0)) = true := by simp [amtB, h]
  unfold gone
  rw [filter_take hi (0, 0), ha, if_pos rfl, List.length_append]
  show addN S (addsN S L k _ _) k _ = _
  rw [addsN_append _ _ _ _ _ _ (Nat.le_refl _), List.getElem?_append_right (Nat.le_refl _)]
  simp
theorem gone_all {S : List Int} {L : List Node} {k : Nat} {cl : Bool} {i : Nat} (hi : (allL S.length cl).length ≤ i) : gone S L k (allL S.length cl) i = goN S cl L k := by
  unfold gone goN onN
  rw [List.take_of_length_le hi, all_on]
theorem gone_prefix (S : List Int) (L : List Node) (k : Nat) (ps : List (Int × Int)) (i : Nat) : L <+: gone S L k ps i := addsN_prefix S L k _ (Nat.zero_le _)
theorem gone_found {S H : List Int} {L : List Node} (h : Found S H L) {k : Nat} (hk : k < L.length) {cl : Bool} (i : Nat) : Found S H (gone S L k (allL S.length cl) i) := by
  refine h.adds hk (Nat.le_refl _) fun j hj => ?_
  have hm : (((allL S.length cl).take i).filter (amtB S (L[k]?.getD dN).h))[j] ∈ allL S.length cl := List.mem_of_mem_take (List.mem_filter.1 (List.getElem_mem hj)).1
  rw [List.getElem?_eq_getElem hj]
  exact allL_ok hm
theorem addN_length (S : List Int) (L : List Node) (k : Nat) (p : Int × Int) : (addN S L k p).length ≤ L.length + 1 := by
  unfold addN
  split
  · omega
  · simp
theorem addsN_length (S : List Int) (L : List Node) (k : Nat) (ps : List (Int × Int)) (j : Nat) : (addsN S L k ps j).length ≤ L.length + j := by
  induction j with
  | zero => exact Nat.le_refl _
  | succ j ih =>
    have := addN_length S (addsN S L k ps j) k (ps[j]?.getD (0, 0))
    show (addN S (addsN S L k ps j) k (ps[j]?.getD (0, 0))).length ≤ _
    omega
theorem gone_length (S : List Int) (L : List Node) (k : Nat) (ps : List (Int × Int)) (i : Nat) : (gone S L k ps i).length ≤ L.length + ps.length := by
  have h1 := addsN_length S L k ((ps.take i).filter (amtB S (L[k]?.getD dN).h)) ((ps.take i).filter (amtB S (L[k]?.getD dN).h)).length
  have h2 := filter_small ps (amtB S (L[k]?.getD dN).h) i
  unfold gone
  omega

/-! ### What stands -/
theorem Keeps.grow0 {w w' : World} {R g : Nat} {pre post : List Value} {v v' : Value} (hg : w.grownBy w' v.ownBlock) (hv : v'.ownBlock = some g) (hb : v.ownBlock = some g ∨ g = w.heap.size) :
    Keeps w w' R (pre ++ v :: post) (pre ++ v' :: post) := by
  refine ⟨hg.size, fun b hlt hf => ⟨hg.block b hlt (fun e => hf.2 v (by simp) e.symm), hf.1, fun s hs => ?_⟩⟩
  rcases List.mem_append.1 hs with h | h
  · exact hf.2 s (List.mem_append_left _ h)
  · rcases List.mem_cons.1 h with rfl | h
    · rw [hv]
      intro e
      have e' : g = b := by simpa using e
      rcases hb with hb | hb
      · exact hf.2 v (by simp) (by rw [hb, e'])
      · omega
    · exact hf.2 s (List.mem_append_right _ (List.mem_cons_of_mem _ h))
theorem Far.less {R b : Nat} {vs us : List Value} (h : Far R vs b) (hu : ∀ u ∈ us, u ∈ vs ∨ u = nilS) : Far R us b := ⟨h.1, fun u hm => by
  rcases hu u hm with hu | rfl
  · exact h.2 u hu
  · intro e; cases e⟩
theorem Keeps.widen {w w' : World} {R : Nat} {vs vs' us : List Value} (h : Keeps w w' R vs vs') (hu : ∀ u ∈ us, u ∈ vs' ∨ u = nilS) : Keeps w w' R vs us := ⟨h.1, fun b hb hf => ⟨(h.2 b hb hf).1, (h.2 b hb hf).2.less hu⟩⟩
theorem Keeps.less {w w' : World} {R : Nat} {vs vs' us : List Value} (h : Keeps w w' R vs vs') (hu : ∀ v ∈ vs, v ∈ us ∨ v = nilS) : Keeps w w' R us vs' := ⟨h.1, fun b hb hf => h.2 b hb (hf.less hu)⟩
theorem Box5.keep {w w' : World} {R B : Nat} {vs vs' : List Value} {A : List Int} (h : Box5 w B A) (k : Keeps w w' R vs vs') (hf : Far R vs B) : Box5 w' B A :=
  ⟨Nat.lt_of_lt_of_le h.lt k.1, fun i hi => k.cell (p := ⟨B, i, none⟩) hf (h.cell i hi), fun i => (World.frozen?_of_block (k.2 B h.lt hf).1).trans (h.frozen i)⟩
/-- The place's row as it is read at one place. -/
theorem Srch.at {kf : List Int → Lit} {w0 w : World} {B base mb : Nat} {sv : Value} {L : List Node} {vp vl : Value} {lay : List Int} {P St : Nat → Value} (h : Srch kf w0 w B base mb sv L vp vl lay P St) {k : Nat} (hk : k < L.length) :
    ∃ g cap, vp = .slice (some ⟨g, 0, none⟩) L.length cap ∧ w.cell? ⟨B, 1, none⟩ = some vp ∧ L.length ≤ cap ∧ w.rangeAt g (k * 7) (place7 (L[k]?.getD dN).h (P k) (St k)) ∧ w.frozen? ⟨g, k * 7 + 6, none⟩ = false := by
  obtain ⟨g, cap, e, hc, _, _, hr⟩ := own_read (h.box.own (q1 vp L P St) (by simp)) (show 0 < L.length by omega)
  refine ⟨g, cap, e, h.box.cell (q1 vp L P St) (by simp), hc, fun j v hv => ?_, ?_⟩
  · have hj : j < 7 := by
      have := (List.getElem?_eq_some_iff.1 hv).1
      rw [place7_length] at this
      exact this
    refine (hr (k * 7 + j) v (by show k * 7 + j < L.length * 7; omega) ?_).1
    show (flat7 (hA L) P St L.length)[k * 7 + j]? = some v
    rw [flat7_get _ _ _ hk j hj]
    exact hv
  · refine (hr (k * 7 + 6) (St k) (by show k * 7 + 6 < L.length * 7; omega) ?_).2
    show (flat7 (hA L) P St L.length)[k * 7 + 6]? = some (St k)
    rw [flat7_get _ _ _ hk 6 (by omega)]
    rfl
end Go.Proofs.Ytilepckgcgdjgaa
