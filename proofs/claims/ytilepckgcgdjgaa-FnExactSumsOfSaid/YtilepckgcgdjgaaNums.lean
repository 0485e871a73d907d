/- The numbers that are marked, increasing. -/
import Derived.Test.YtilepckgcgdjgaaIncr
import Derived.Test.YtilepckgcgdjgaaGrid
import Derived.Test.YtilepckgcgdjgaaBfs
import Derived.Test.YtilepckgcgdjgaaSpec2
namespace Go.Proofs.Ytilepckgcgdjgaa
open Go.RowKit

/-- The numbers below k that are in a list, increasing. -/
def numK (l : List Int) (k : Nat) : List Int := ((List.range k).filter fun j : Nat => decide ((j : Int) ∈ l)).map Int.ofNat
theorem numK_yes {l : List Int} {k : Nat} (h : decide ((k : Int) ∈ l) = true) : numK l (k + 1) = numK l k ++ [(k : Int)] := by
  unfold numK
  rw [List.range_succ, List.filter_append, List.filter_cons, if_pos h]
  simp
theorem numK_no {l : List Int} {k : Nat} (h : decide ((k : Int) ∈ l) = false) : numK l (k + 1) = numK l k := by
  unfold numK
  rw [List.range_succ, List.filter_append, List.filter_cons, if_neg (by rw [h]; decide)]
  simp
theorem numK_len (l : List Int) (k : Nat) : (numK l k).length ≤ k := by
  unfold numK
  have := List.length_filter_le (fun j : Nat => decide ((j : Int) ∈ l)) (List.range k)
  simpa using this
theorem nat_ints {l : List Int} (h : ∀ x, x ∈ l → 0 ≤ x) : l = (l.map Int.toNat).map Int.ofNat := by
  rw [List.map_map]
  conv => lhs; rw [← List.map_id l]
  refine List.map_congr_left fun x hx => ?_
  have := h x hx
  simp only [id, Function.comp]
  show x = ((x.toNat : Nat) : Int)
  omega
theorem occur_numK {l : List Int} {N : Nat} (h : ∀ x, x ∈ l → 0 ≤ x) : (occur N (l.map Int.toNat)).map Int.ofNat = numK l N := by
  unfold occur numK
  congr 1
  refine List.filter_congr fun j _ => ?_
  congr 1
  apply propext
  constructor
  · intro hm
    obtain ⟨x, hx, e⟩ := List.mem_map.1 hm
    have := h x hx
    rw [show (j : Int) = x by omega]
    exact hx
  · intro hm
    exact List.mem_map.2 ⟨(j : Int), hm, by simp⟩

/-- What is held in the first k that are found. -/
def heldL (E : List Node) : Nat → List Int
  | 0 => []
  | k + 1 => heldL E k ++ (E[k]?.getD dN).h
def totL (E : List Node) : Nat → List Int
  | 0 => []
  | k + 1 => totL E k ++ [sumOf (E[k]?.getD dN).h]
theorem in_at {l : List Int} {p : Int → Prop} (h : ∀ j, j < l.length → p (l[j]?.getD 0)) : ∀ x, x ∈ l → p x := by
  intro x hx
  obtain ⟨j, hj, rfl⟩ := List.mem_iff_getElem.1 hx
  have := h j hj
  simpa [hj] using this
theorem good_held {S H : List Int} (h : Good S H) : ∀ j, j < H.length → 0 ≤ H[j]?.getD 0 ∧ H[j]?.getD 0 ≤ 60 := by
  intro j hj
  have := h.at (j := j) (by have := h.2.1; omega)
  omega
theorem heldL_in {S H : List Int} {E : List Node} (hf : Found S H E) : ∀ k, k ≤ E.length → ∀ x, x ∈ heldL E k → 0 ≤ x ∧ x ≤ 60
  | 0, _ => by intro x hx; simp [heldL] at hx
  | k + 1, hk => by
    intro x hx
    rw [heldL, List.mem_append] at hx
    rcases hx with hx | hx
    · exact heldL_in hf k (by omega) x hx
    · exact in_at (p := fun x => 0 ≤ x ∧ x ≤ 60) (good_held (hf.good k (by omega))) x hx
theorem heldL_len {S H : List Int} {E : List Node} (hf : Found S H E) : ∀ k, k ≤ E.length → (heldL E k).length = k * S.length
  | 0, _ => by simp [heldL]
  | k + 1, hk => by
    rw [heldL, List.length_append, heldL_len hf k (by omega), (hf.good k (by omega)).2.1, Nat.succ_mul]
theorem sum_in {S H : List Int} (h : Good S H) : 0 ≤ sumOf H ∧ sumOf H ≤ 300 := by
  have := sumOf_le H (good_held h) H.length (Nat.le_refl _)
  rw [List.take_length] at this
  have h5 : H.length ≤ 5 := by have := h.1; have := h.2.1; omega
  omega
theorem totL_in {S H : List Int} {E : List Node} (hf : Found S H E) : ∀ k, k ≤ E.length → ∀ x, x ∈ totL E k → 0 ≤ x ∧ x ≤ 300
  | 0, _ => by intro x hx; simp [totL] at hx
  | k + 1, hk => by
    intro x hx
    rw [totL, List.mem_append, List.mem_singleton] at hx
    rcases hx with hx | rfl
    · exact totL_in hf k (by omega) x hx
    · exact sum_in (hf.good k (by omega))
theorem totL_len (E : List Node) : ∀ k, (totL E k).length = k
  | 0 => rfl
  | k + 1 => by rw [totL, List.length_append, totL_len E k]; rfl

theorem heap_laid {w : World} {o : Obj} {B : Nat} (hB : w.heap.size = B) : (w.alloc o).heap[B]? = some o := by subst hB; exact heap_alloc_new w o

/-- A row of bools: a number's is true where the number is in a list. -/
def MkB (w : World) (B N : Nat) (l : List Int) : Prop := ∃ f, w.rowIs B 4 N f ∧ ∀ j, j < N → f j = .bool (decide ((j : Int) ∈ l))
theorem MkB.cell {w : World} {B N : Nat} {l : List Int} (h : MkB w B N l) {j : Nat} (hj : j < N) : w.cell? ⟨B, j, none⟩ = some (.bool (decide ((j : Int) ∈ l))) ∧ w.frozen? ⟨B, j, none⟩ = false := by
  obtain ⟨f, hr, hf⟩ := h
  exact ⟨by rw [hr.cell hj, hf j hj], hr.frozen j⟩
theorem MkB.lt {w : World} {B N : Nat} {l : List Int} (h : MkB w B N l) : B < w.heap.size := by
  obtain ⟨f, hr, hf⟩ := h
  exact hr.lt
theorem MkB.of_block {w w' : World} {B N : Nat} {l : List Int} (h : MkB w B N l) (k : w'.heap[B]? = w.heap[B]?) : MkB w' B N l := by
  obtain ⟨f, hr, hf⟩ := h
  exact ⟨f, hr.of_block k, hf⟩
theorem MkB.new {w w' : World} {B N : Nat} {l : List Int} (h : MkB w B N l) (k : New w w') : MkB w' B N l := h.of_block (k.block B h.lt)
theorem MkB.store {w : World} {B N : Nat} {l : List Int} (h : MkB w B N l) (j : Nat) : MkB (w.setCell ⟨B, j, none⟩ (.bool true)) B N (l ++ [(j : Int)]) := by
  obtain ⟨f, hr, hf⟩ := h
  refine ⟨_, hr.set j _, fun i hi => ?_⟩
  by_cases e : i = j
  · subst e
    simp
  · rw [if_neg e, hf i hi]
    congr 2
    simp only [List.mem_append, List.mem_singleton]
    apply propext
    constructor
    · exact .inl
    · rintro (h | h)
      · exact h
      · omega
theorem MkB.made (w : World) (N : Nat) : MkB (w.alloc (.cells (List.replicate N (Value.bool false)).toArray 4)) w.heap.size N [] :=
  ⟨fun _ => .bool false, ⟨_, heap_alloc_new _ _, by simp, fun i hi => by simp [hi]⟩, fun j _ => by simp⟩
theorem Try.infoBool : (Try.prog.info? 4).map (fun i => (i.zero, i.size, i.bytes)) = some (some (.bool false), 1, 1) := by kernel_rfl

set_option maxRecDepth 100000 in
theorem plNumbers_any (w : World) (B N cap : Nat) (l : List Int) (hm : MkB w B N l) (hN : N ≤ 1000) :
    Calls Try.prog 34 #[.slice (some ⟨B, 0, none⟩) N cap] w fun e w' => ∃ oa oc, e = .returned (.slice oa (numK l N).length oc) ∧ Own w' w.heap.size w'.heap.size oa (numK l N).length oc (numK l N) ∧ New w w' := by
  have HM := Lib.hid hm; clear hm
  obtain ⟨i0, hi, hz0, hz1, hz2⟩ := info_parts Try.infoInt
  go_enter Try.func34, Try.ntmps34
  go_wp2
  go_loopw [3, 8] (fun vo i wr => ∃ k : Nat, k ≤ N ∧ i = .int .i64 k ∧ New w wr ∧ wr.ownsRow w.heap.size 3 1 vo (numK l k).length ((numK l k).map (Value.int .i64))) (fun _ i _ => N - (intOf i).toNat)
  case atStart => exact ⟨0, Nat.zero_le _, rfl, New.refl _, World.ownsRow_nil _ _ _ _⟩
  case round =>
    obtain ⟨k, hk, rfl, hnw, hro⟩ := hrel
    have NW := Lib.hid hnw; clear hnw
    have RO := Lib.hid hro; clear hro
    by_cases hlt : k < N
    · have hcl := ((HM.out.new NW.out).cell hlt).1
      have kl := numK_len l k
      cases hd : decide ((k : Int) ∈ l)
      case true =>
        rw [hd] at hcl
        have E := Lib.hid (numK_yes hd); clear hd
        have EL := Lib.hid (show (numK l (k + 1)).length = (numK l k).length + 1 from by rw [E.out]; simp)
        obtain ⟨q, hq⟩ : ∃ q, q = (numK l k).length := ⟨_, rfl⟩
        have QQ := Lib.hid hq
        have ro := RO.out
        rw [← hq] at ro
        have RO2 := Lib.hid ro
        rw [← hq] at kl
        clear ro hq
        have zb := NW.out.size
        go_wp2_with (at_builtin; (refine wpList_append_lies _ (by rfl) (.tmp 14) (.tmp 16) 22 (by rfl) w.heap.size 3 i0 (.int .i64 0) 1 8 Try.underlying22 hi hz0 hz1 hz2 rfl (by decide) _ q _ (by rfl) (ownsRow_new RO2.out (by repeat (first | with_reducible exact New.refl _ | with_reducible assumption | refine New.drewN ?_ _ | refine New.drew ?_ | refine New.alloc ?_ _ | refine New.setCell ?_ (by first | omega | (simp; omega) | (simp; done)) _ | (refine New.trans ?_ (by assumption))))) _ _ _ [.int .i64 k] (by rfl) (by rfl) (World.news_of_block (cs := #[.int .i64 k]) (t := 3) (fr := (0, 0)) (heap_laid (by simp))) (by simp [Value.oneCell']) (by omega) (by unfold maxLen; omega) (by omega) (by first | omega | (simp; omega) | (simp; done)) _ rfl ?_; intro g cap w3 ho hg hb' hlt'; have N3 := Lib.hid (New.grown (NW.out.trans (by repeat (first | with_reducible exact New.refl _ | with_reducible assumption | refine New.drewN ?_ _ | refine New.drew ?_ | refine New.alloc ?_ _ | refine New.setCell ?_ (by first | omega | (simp; omega) | (simp; done)) _ | (refine New.trans ?_ (by assumption))))) (ownsRow_new RO2.out (by repeat (first | with_reducible exact New.refl _ | with_reducible assumption | refine New.drewN ?_ _ | refine New.drew ?_ | refine New.alloc ?_ _ | refine New.setCell ?_ (by first | omega | (simp; omega) | (simp; done)) _ | (refine New.trans ?_ (by assumption))))) (Nat.le_refl _) hg); have RO3 := Lib.hid ho; clear ho hg hb' hlt'))
        go_roundw
        case rel =>
          refine ⟨k + 1, by omega, by go_num, N3.out, ?_⟩
          rw [EL.out, E.out, List.map_append, ← QQ.out]
          exact RO3.out
        case measure => simp [intOf]; omega
      case false =>
        rw [hd] at hcl
        have E := Lib.hid (numK_no hd); clear hd
        go_wp2
        go_roundw
        case rel =>
          refine ⟨k + 1, by omega, by go_num, NW.out, ?_⟩
          rw [E.out]
          exact RO.out
        case measure => simp [intOf]; omega
    · obtain rfl : k = N := by omega
      go_wp2
      obtain ⟨oa, oc, e1, o1⟩ := Own.of_row RO.out
      subst e1
      go_ret
      exact ⟨_, _, rfl, o1, NW.out⟩
end Go.Proofs.Ytilepckgcgdjgaa
