/- A region whose order is drawn, in company: what each operation leaves, in whatever order it is come to. -/
import Derived.Test.YtnahlemchajfdaaTk5
namespace Go.Proofs.Ytnahlemchajfdaa
open Go.Conc Go.RowKit Go.Proofs.Ytnahlemchajfdaa.Meta

section
variable {P : Program} {Stop : Goroutine → World → Prop} {b : Frame} {k : List Item} {cs : List Frame} {ops : Array Oper}

/-- What the operation i has left. -/
def Got (ops : Array Oper) (R : Nat → Value → World → Prop) (i : Nat) (a : Act) (w : World) : Prop :=
  ∃ v, R i v w ∧ ∀ d, (ops[i]?).bind (·.dst) = some d → a.tmps[d]? = some v

def chkD (ops : Array Oper) (N : Nat) (bs : List Nat) : Bool :=
  (List.range ops.size).all fun i => match ops[i]? with
    | none => true
    | some o => (o.after.all fun e => !Region.binds .any e || decide (e.on < i)) && match o.dst with
      | none => true
      | some d => decide (d < N) && !bs.contains d && (List.range ops.size).all fun j => j == i || !((ops[j]?).bind (·.dst) == some d)

theorem chkD_at {N : Nat} {bs : List Nat} (h : chkD ops N bs = true) {i : Nat} {o : Oper} (ho : ops[i]? = some o) :
    (∀ e ∈ o.after, Region.binds .any e = true → e.on < i) ∧ ∀ d, o.dst = some d → d < N ∧ d ∉ bs ∧ ∀ j, j < ops.size → j ≠ i → (ops[j]?).bind (·.dst) ≠ some d := by
  have hi : i < ops.size := by
    rcases Nat.lt_or_ge i ops.size with q | q
    · exact q
    · rw [Array.getElem?_eq_none q] at ho; cases ho
  have hh := List.all_eq_true.1 h i (List.mem_range.2 hi)
  simp only [ho, Bool.and_eq_true] at hh
  refine ⟨fun e he hbd => ?_, fun d hd => ?_⟩
  · have q := Array.all_eq_true'.1 hh.1 e he
    rw [hbd] at q
    exact of_decide_eq_true (by simpa using q)
  · have q := hh.2
    rw [hd] at q
    simp only [Bool.and_eq_true] at q
    refine ⟨of_decide_eq_true q.1.1, ?_, fun j hj hji e => ?_⟩
    · have q2 := q.1.2
      simpa using q2
    · have q3 := List.all_eq_true.1 q.2 j (List.mem_range.2 hj)
      rw [e] at q3
      simp at q3
      exact hji q3

/-- The slots that the region does not touch. -/
def Bas (ks : List (Nat × Value)) (N : Nat) (df : List Deferred) (a : Act) : Prop :=
  a.tmps.size = N ∧ a.defers = df ∧ ∀ p ∈ ks, a.tmps[p.1]? = some p.2

theorem eval_tmp {a : Act} {t : Nat} {v : Value} (h : a.tmps[t]? = some v) : a.eval (.tmp t) = v := by
  simp [Act.eval, Array.getD_eq_getD_getElem?, h]

theorem gc_drawn_rel {id : Nat} {a0 : Act} {w0 : World} (N : Nat) (ks : List (Nat × Value)) (df : List Deferred) (R : Nat → Value → World → Prop) (Fr : World → World → Prop) (W0 : World → Prop)
    (hm : P.follows .mixedOrders = true) (hc : chkD ops N (ks.map (·.1)) = true)
    (hR : ∀ j v w w', Fr w w' → R j v w → R j v w') (hW : ∀ w w', Fr w w' → W0 w → W0 w')
    (hstep : ∀ i o, ops[i]? = some o → ∀ a w, Bas ks N df a → W0 w → (∀ e ∈ o.after, Region.binds .any e = true → Got ops R e.on a w) → NPW w → ∀ rest, (∀ v w', R i v w' → Fr w w' → NPW w' → GoesC P Stop (G (b.at (a.put o.dst v) (.inRegion ops rest :: k)) cs) w') → GoesC P Stop (G (b.at a (.inRegion ops (i :: rest) :: k)) cs) w)
    (hend : ∀ a w, Bas ks N df a → W0 w → (∀ i, i < ops.size → Got ops R i a w) → NPW w → GoesC P Stop (G (b.at a k) cs) w)
    (hb0 : Bas ks N df a0) (hw0 : W0 w0) (hn : NPW w0) : GoesC P Stop (G (b.at a0 (.code (.region id ops true) :: k)) cs) w0 := by
  refine gc_drawn_any hm (fun m listed a w => listed.size = ops.size ∧ m + (listed.toList.count true) = ops.size ∧ Bas ks N df a ∧ W0 w ∧ ∀ i, i < ops.size → listed.getD i false = true → Got ops R i a w) ?_ ?_ ⟨by simp, by simp [List.count_replicate], hb0, hw0, fun i hi h => by simp [hi] at h⟩ hn
  · rintro m listed a w ⟨hs, hcount, hb, hw, hg⟩ hn i hi rest next
    have hmem := List.mem_filter.1 hi
    have hilt : i < ops.size := List.mem_range.1 hmem.1
    have hr := hmem.2
    have ho : ops[i]? = some ops[i] := Array.getElem?_eq_getElem hilt
    rw [ho] at hr
    simp only [Option.map_some, Option.getD_some, Bool.and_eq_true] at hr
    have hnl : listed[i]'(by omega) = false := by
      have q := hr.1
      simp [Array.getD, hs, hilt] at q
      exact q
    obtain ⟨hearly, hdst⟩ := chkD_at hc ho
    refine hstep i ops[i] ho a w hb hw (fun e he hbd => ?_) hn rest fun v w' hv hf hn' => ?_
    · have q := Array.all_eq_true'.1 hr.2 e he
      rw [hbd] at q
      have q2 : listed.getD e.on false = true := by simpa using q
      exact hg _ (Nat.lt_trans (hearly e he hbd) hilt) q2
    · refine next _ w' ⟨by simp [hs], ?_, ?_, hW _ _ hf hw, ?_⟩ hn'
      · have hl : i < listed.size := by omega
        have e1 : (listed.setIfInBounds i true).toList.count true = listed.toList.count true + 1 := by
          rw [Array.setIfInBounds, dif_pos hl]
          simp only [Array.toList_set]
          rw [List.count_set (by simpa using hl)]
          have e2 : listed.toList[i]'(by simpa using hl) = false := by simpa using hnl
          rw [e2]; simp
        rw [e1]; omega
      · obtain ⟨b1, b2, b3⟩ := hb
        cases hd : ops[i].dst with
        | none => exact ⟨b1, b2, b3⟩
        | some d =>
          obtain ⟨h1, h2, h3⟩ := hdst d hd
          refine ⟨by simp [Act.put, b1], b2, fun p hp => ?_⟩
          have hne : d ≠ p.1 := fun e => h2 (e ▸ List.mem_map.2 ⟨p, hp, rfl⟩)
          simp only [Act.put]
          rw [Array.getElem?_setIfInBounds_ne hne]
          exact b3 p hp
      · intro j hj hjl
        by_cases e : j = i
        · subst e
          refine ⟨v, hv, fun d hd => ?_⟩
          rw [ho] at hd
          have hd' : ops[j].dst = some d := hd
          obtain ⟨h1, -, -⟩ := hdst d hd'
          rw [hd']
          simp only [Act.put]
          rw [Array.getElem?_setIfInBounds_self_of_lt (by rw [hb.1]; exact h1)]
        · have hl : listed.getD j false = true := by
            simp only [Array.getD_eq_getD_getElem?] at hjl ⊢
            rwa [Array.getElem?_setIfInBounds_ne (fun q => e q.symm)] at hjl
          obtain ⟨u, hu, hs2⟩ := hg j hj hl
          refine ⟨u, hR _ _ _ _ hf hu, fun d hd => ?_⟩
          cases hd2 : ops[i].dst with
          | none => exact hs2 d hd
          | some d2 =>
            obtain ⟨-, -, h3⟩ := hdst d2 hd2
            have hne : d2 ≠ d := fun q => h3 j hj e (q ▸ hd)
            simp only [Act.put]
            rw [Array.getElem?_setIfInBounds_ne hne]
            exact hs2 d hd
  · rintro m listed a w ⟨hs, hcount, hb, hw, hg⟩ hor hn
    refine hend a w hb hw (fun i hi => hg i hi ?_) hn
    rcases hor with rfl | hnil
    · have hall : ∀ x ∈ listed.toList, x = true := by
        have : listed.toList.count true = listed.toList.length := by simp only [Array.length_toList]; omega
        intro x hx
        exact (List.count_eq_length.1 this x hx).symm
      have hl : i < listed.size := by omega
      have := hall (listed[i]) (by simp)
      simp [Array.getD, hl, this]
    · induction i using Nat.strongRecOn with
      | _ i ih =>
        by_cases hq : listed.getD i false = true
        · exact hq
        · exfalso
          have ho : ops[i]? = some ops[i] := Array.getElem?_eq_getElem hi
          obtain ⟨hearly, -⟩ := chkD_at hc ho
          have : i ∈ Region.ready .any ops listed := by
            refine List.mem_filter.2 ⟨List.mem_range.2 hi, ?_⟩
            rw [ho]
            simp only [Option.map_some, Option.getD_some, Bool.and_eq_true]
            refine ⟨?_, Array.all_eq_true'.2 fun e he => ?_⟩
            · have hl : i < listed.size := by omega
              simp [Array.getD, hl] at hq ⊢
              exact hq
            · by_cases hbd : Region.binds .any e = true
              · have hei := hearly e he hbd
                rw [ih e.on hei (by omega)]
                simp
              · rw [Bool.not_eq_true] at hbd
                rw [hbd]; rfl
          rw [hnil] at this
          cases this
end
end Go.Proofs.Ytnahlemchajfdaa
