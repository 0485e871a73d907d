/- A region whose order is drawn, in company: every order, by an invariant over what is done. -/
import Derived.Test.YtnahlemchajfdaaTk3
import Derived.Orders
namespace Go.Proofs.Ytnahlemchajfdaa
open Go.Conc Go.RowKit Go.Proofs.Ytnahlemchajfdaa.Meta

section
variable {P : Program} {Stop : Goroutine → World → Prop} {b : Frame} {a : Act} {k : List Item} {cs : List Frame} {w : World} {ops : Array Oper}

theorem gc_drawn {id : Nat} (h : ∀ t, GoesC P Stop (G (b.at a (.inRegion ops (Region.schedule (P.follows .mixedOrders) ops t) :: k)) cs) w) : GoesC P Stop (G (b.at a (.code (.region id ops true) :: k)) cs) w := by
  refine .of_W fun τ => .of rfl fun d => ?_
  by_cases hq : (Question.order b.fn id).forced = true
  · refine ⟨G (b.at a (.inRegion ops (Region.schedule (P.follows .mixedOrders) ops 0) :: k)) cs, (Meta.wt w τ 0).at d, #[], ?_, dp_idle.same _, (((h 0).wt τ 0).at0).at d⟩
    simp [G, stepG, stepG.exec, Frame.at, choose, Sem.run, hq]
  · refine ⟨G (b.at a (.inRegion ops (Region.schedule (P.follows .mixedOrders) ops ((Question.order b.fn id).cut (((Meta.wt w τ 0).at d).tape ((Meta.wt w τ 0).at d).drawn (.order b.fn id)))) :: k)) cs, (Meta.wt w τ 0).at (d + 1), #[], ?_, dp_idle ((Meta.wt w τ 0).at d) (d + 1), (((h _).wt τ 0).at0).at (d + 1)⟩
    simp [G, stepG, stepG.exec, Frame.at, choose, Sem.run, hq]
    rfl

/-- Every order: what is done (and how many steps there may yet be), and the place that it leads to. -/
theorem gc_any (md : Region.Mode) (I : Nat → Array Bool → Act → World → Prop)
    (hstep : ∀ m listed a w, I (m + 1) listed a w → NPW w → ∀ i ∈ Region.ready md ops listed, ∀ rest, (∀ a' w', I m (listed.setIfInBounds i true) a' w' → NPW w' → GoesC P Stop (G (b.at a' (.inRegion ops rest :: k)) cs) w') → GoesC P Stop (G (b.at a (.inRegion ops (i :: rest) :: k)) cs) w)
    (hend : ∀ m listed a w, I m listed a w → (m = 0 ∨ Region.ready md ops listed = []) → NPW w → GoesC P Stop (G (b.at a k) cs) w) :
    ∀ (fuel t : Nat) (listed : Array Bool) (a : Act) (w : World), I fuel listed a w → NPW w → GoesC P Stop (G (b.at a (.inRegion ops (Region.linearise.go md ops fuel t listed []) :: k)) cs) w := by
  intro fuel
  induction fuel with
  | zero => exact fun t listed a w hI hn => gc_nil (hend _ listed a w hI (.inl rfl) hn)
  | succ fuel ih =>
    intro t listed a w hI hn
    simp only [Region.linearise.go]
    change GoesC P Stop (G (b.at a (.inRegion ops (match (Region.ready md ops listed)[t % (Region.ready md ops listed).length]? with
      | some i => Region.linearise.go md ops fuel (t / (Region.ready md ops listed).length) (listed.setIfInBounds i true) [i]
      | none => [].reverse) :: k)) cs) w
    cases hi : (Region.ready md ops listed)[t % (Region.ready md ops listed).length]? with
    | none =>
      have hnil : Region.ready md ops listed = [] := by
        cases hr : Region.ready md ops listed with
        | nil => rfl
        | cons x xs =>
          rw [hr] at hi
          have hlt : t % (x :: xs).length < (x :: xs).length := Nat.mod_lt _ (by simp)
          simp at hi
          simp at hlt
          omega
      exact gc_nil (hend _ listed a w hI (.inr hnil) hn)
    | some i =>
      simp only []
      rw [linearise_go_acc, List.reverse_singleton, List.singleton_append]
      exact hstep fuel listed a w hI hn i (List.mem_of_getElem? hi) _ fun a' w' hI' hn' => ih _ _ a' w' hI' hn'

theorem gc_drawn_any {id : Nat} (hm : P.follows .mixedOrders = true) (I : Nat → Array Bool → Act → World → Prop)
    (hstep : ∀ m listed a w, I (m + 1) listed a w → NPW w → ∀ i ∈ Region.ready .any ops listed, ∀ rest, (∀ a' w', I m (listed.setIfInBounds i true) a' w' → NPW w' → GoesC P Stop (G (b.at a' (.inRegion ops rest :: k)) cs) w') → GoesC P Stop (G (b.at a (.inRegion ops (i :: rest) :: k)) cs) w)
    (hend : ∀ m listed a w, I m listed a w → (m = 0 ∨ Region.ready .any ops listed = []) → NPW w → GoesC P Stop (G (b.at a k) cs) w) (hI : I ops.size (Array.replicate ops.size false) a w) (hn : NPW w) : GoesC P Stop (G (b.at a (.code (.region id ops true) :: k)) cs) w :=
  gc_drawn fun t => by
    simp only [Region.schedule, hm, Bool.true_or, if_true]
    exact gc_any .any I hstep hend ops.size t _ a w hI hn
end
end Go.Proofs.Ytnahlemchajfdaa
