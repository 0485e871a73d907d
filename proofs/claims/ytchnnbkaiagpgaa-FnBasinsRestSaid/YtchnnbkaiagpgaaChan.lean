/- Two channels with room for one number each: what is put on them, and what is taken from both, whichever a select takes first. -/
import Derived.Test.YtchnnbkaiagpgaaBase
import Derived.Conc.LoneCalls
import Derived.Conc.LoneSelectN
import Derived.KernelRfl
import Derived.IntWalk
namespace Go.Proofs.Ytchnnbkaiagpgaa
open Go.Conc Go.RowKit

/-- Two receives, each of which finds something: the tape picks the one. -/
theorem step_sel_either {P : Program} {fr : Frame} {cs : List Frame} {w w₁ : World} {es : Array Event} {c d s r s' r' : Nat} {x y z z' : Value}
    (h : stepG P true (G fr cs) w = .comm (G fr cs) #[rcase c z, rcase d z'] true .select w₁ es)
    (hc : w₁.heap[c]? = some (.chan 1 #[x] false s r false)) (hd : w₁.heap[d]? = some (.chan 1 #[y] false s' r' false)) :
    step P (solo (G fr cs) w) = .next (solo (G (fr.finish (commResult #[rcase c z, rcase d z'] .select ((0 : Nat) : Int) x true)) cs) (w₁.drew.setChan c 1 #[] false s (r + 1) false)) ∨
    step P (solo (G fr cs) w) = .next (solo (G (fr.finish (commResult #[rcase c z, rcase d z'] .select ((1 : Nat) : Int) y true)) cs) (w₁.drew.setChan d 1 #[] false s' (r' + 1) false)) := by
  have hp := fun c => partners_lone c true
  have hw0 : ways w₁ #[ph] (rcase c z) = [.buffer] := by simp [ways, rcase, hc]
  have hw1 : ways w₁ #[ph] (rcase d z') = [.buffer] := by simp [ways, rcase, hd]
  have hready : ((#[rcase c z, rcase d z'].zipIdx.toList.map fun (c, k) => (k, c, ways w₁ #[ph] c)).filter fun (_, _, ws) => !ws.isEmpty) = [(0, rcase c z, [.buffer]), (1, rcase d z', [.buffer])] := by
    simp [List.zipIdx_cons, hw0, hw1]
  have hill : (#[rcase c z, rcase d z'].any (illMade w₁)) = false := any_ill (fun cc hcc => by
    simp only [List.mem_toArray, List.mem_cons, List.not_mem_nil, or_false] at hcc
    rcases hcc with rfl | rfl
    · exact made_recv z hc
    · exact made_recv z' hd)
  have hrun : (step P (solo (G fr cs) w)) = (communicate P (solo (G fr cs) w).rest #[ph] 0 (G fr cs) #[rcase c z, rcase d z'] true .select w₁).1 := by
    rw [step, stepT_solo rfl, solo_eq_crowd, runT_crowd_comm (gs := #[G fr cs]) (i := 0) (g := G fr cs) rfl h]
    rfl
  have hcut : (Question.select 2).cut (w₁.tape w₁.drawn (Question.select 2)) = 0 ∨ (Question.select 2).cut (w₁.tape w₁.drawn (Question.select 2)) = 1 := by
    have : (Question.select 2).cut (w₁.tape w₁.drawn (Question.select 2)) < 2 := by
      simp only [Question.cut]
      first | omega | exact Nat.mod_lt _ (by omega)
    omega
  have hc' : w₁.drew.heap[c]? = some (.chan 1 #[x] false s r false) := hc
  have hd' : w₁.drew.heap[d]? = some (.chan 1 #[y] false s' r' false) := hd
  rw [hrun]
  unfold communicate
  simp only [hready]
  rw [if_neg (by rw [Bool.not_eq_true]; exact hill)]
  rcases hcut with e | e
  · left
    simp [choose, Sem.run, Question.forced, bind, Sem.bind, pure, e, rcase, hc', hp, World.setChan, solo, Goroutine.finishComm, G]
  · right
    simp [choose, Sem.run, Question.forced, bind, Sem.bind, pure, e, rcase, hd', hp, World.setChan, solo, Goroutine.finishComm, G]
theorem LoneTo.either {P : Program} {Q : Goroutine → World → Prop} {fr : Frame} {cs : List Frame} {w w₁ : World} {es : Array Event} {c d s r s' r' : Nat} {x y z z' : Value}
    (h : stepG P true (G fr cs) w = .comm (G fr cs) #[rcase c z, rcase d z'] true .select w₁ es)
    (hc : w₁.heap[c]? = some (.chan 1 #[x] false s r false)) (hd : w₁.heap[d]? = some (.chan 1 #[y] false s' r' false))
    (h0 : LoneTo P Q (G (fr.finish (commResult #[rcase c z, rcase d z'] .select ((0 : Nat) : Int) x true)) cs) (w₁.drew.setChan c 1 #[] false s (r + 1) false))
    (h1 : LoneTo P Q (G (fr.finish (commResult #[rcase c z, rcase d z'] .select ((1 : Nat) : Int) y true)) cs) (w₁.drew.setChan d 1 #[] false s' (r' + 1) false)) : LoneTo P Q (G fr cs) w := by
  rcases step_sel_either h hc hd with st | st
  · exact LoneTo.step st h0
  · exact LoneTo.step st h1
end Go.Proofs.Ytchnnbkaiagpgaa
