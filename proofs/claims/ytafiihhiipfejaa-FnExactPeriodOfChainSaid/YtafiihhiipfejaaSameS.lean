/- Whether two lists of levels are the same, by the model. -/
import Derived.Test.YtafiihhiipfejaaAllS
import Derived.BigQuiet
namespace Go.Proofs.Ytafiihhiipfejaa
open Go.RowKit

theorem sameL {la lb : List (Int × Bool)} (hl : la.length = lb.length) (h : ∀ j, j < la.length → la[j]?.getD (0, false) = lb[j]?.getD (0, false)) : la = lb := by
  apply List.ext_getElem hl
  intro i h1 h2
  have := h i h1
  rw [List.getElem?_eq_getElem h1, List.getElem?_eq_getElem h2] at this
  exact this
set_option maxRecDepth 100000 in
set_option maxHeartbeats 4000000 in
theorem siSame_any (w : World) (aa : Option Addr) (n ca : Nat) (la : List (Int × Bool)) (ab : Option Addr) (m cb : Nat) (lb : List (Int × Bool)) (ha : Levels w aa n ca la) (hb : Levels w ab m cb lb) (hnm : n = m) :
    Calls Try.prog 48 #[.slice aa n ca, .slice ab m cb] w fun e w' => e = .returned (.bool (decide (la = lb))) ∧ New w w' := by
  subst hnm
  have hl : la.length = lb.length := ha.1.symm.trans hb.1
  have HL := Lib.hid ha.1
  have LL := Lib.hid hl; clear hl
  have hma := ha.2.2.1
  have HA := Lib.hid ha; clear ha
  have HB := Lib.hid hb; clear hb
  go_enter Try.func48, Try.ntmps48
  go_wp2
  go_loopw [8] (fun i wr => ∃ k : Nat, k ≤ n ∧ i = .int .i64 k ∧ (∀ j, j < k → la[j]?.getD (0, false) = lb[j]?.getD (0, false)) ∧ New w wr) (fun i _ => n - (intOf i).toNat)
  case atStart => exact ⟨0, Nat.zero_le _, rfl, fun j hj => absurd hj (by omega), New.refl _⟩
  case round =>
    obtain ⟨k, hk, rfl, heq, hnw⟩ := hrel
    have NW := Lib.hid hnw; clear hnw
    have EQ := Lib.hid heq; clear heq
    by_cases hlt : k < n
    · obtain ⟨ba, oa, rfl, ga0, ga1⟩ := (HA.out.new NW.out).2.2.2.1 k hlt
      obtain ⟨bb, ob, rfl, gb0, gb1⟩ := (HB.out.new NW.out).2.2.2.1 k hlt
      have za : ba < wr.heap.size := World.block_lt_of_cell? _ _ ga0
      by_cases e : la[k]?.getD (0, false) = lb[k]?.getD (0, false)
      · rw [e] at ga0 ga1
        obtain ⟨q, hq⟩ : ∃ q, q = lb[k]?.getD (0, false) := ⟨_, rfl⟩
        rw [← hq] at ga0 ga1 gb0 gb1
        have EK := Lib.hid (e.trans hq.symm); clear e
        have HQ := Lib.hid hq; clear hq
        obtain ⟨u, r⟩ := q
        dsimp only at ga0 ga1 gb0 gb1
        go_wp2
        go_quiet (fail)
        go_wp2
        go_roundw
        case rel =>
          refine ⟨k + 1, by omega, by go_num, fun j hj => ?_, NW.out.drewN _⟩
          by_cases g : j = k
          · subst g; rw [EK.out, HQ.out]
          · exact EQ.out j (by omega)
        case measure => simp [intOf]; omega
      · have HF := Lib.hid (show decide (la = lb) = false from decide_eq_false fun g => e (by rw [g]))
        obtain ⟨p, hp⟩ : ∃ p, p = la[k]?.getD (0, false) := ⟨_, rfl⟩
        obtain ⟨q, hq⟩ : ∃ q, q = lb[k]?.getD (0, false) := ⟨_, rfl⟩
        rw [← hp] at ga0 ga1 e
        rw [← hq] at gb0 gb1 e
        clear hp hq
        obtain ⟨u, r⟩ := p
        obtain ⟨v, s⟩ := q
        dsimp only at ga0 ga1 gb0 gb1
        by_cases e1 : u = v
        · subst e1
          have e2 : ¬ r = s := fun g => e (by rw [g])
          clear e
          go_wp2
          go_quiet (fail)
          go_wp2
          go_ret
          exact ⟨by rw [HF.out]; rfl, NW.out.drewN _⟩
        · clear e
          go_wp2
          go_quiet (fail)
          go_wp2
          go_ret
          exact ⟨by rw [HF.out]; rfl, NW.out.drewN _⟩
    · have HT := Lib.hid (show decide (la = lb) = true from decide_eq_true (sameL LL.out fun j hj => EQ.out j (by have := HL.out; omega)))
      go_wp2
      go_ret
      exact ⟨by rw [HT.out]; rfl, NW.out⟩
end Go.Proofs.Ytafiihhiipfejaa
