/-
  No cell of these rows narrows 'for every input' (looked for: loops, veiled, ifaces, maps, wideKeys, modest, calm, conditions, laid).
  DERIVED. THE GIVEN ROWS OF THIS SEAT. 8 by the template 'for every input the law returns true; each argument reads behind the call as it read before'; 0 by the template 'total and deterministic' (their statements: YtkonhflamnekcaaTotals.lean).
  GIVEN WITH THE SEED: the statements are not yours to turn. If you find one false, say at which input.
  Laid BY PROGRAM, IN A SANDBOX (cutbox-rows.mjs): the forced cells as the released guide's own fill.sh prints them over the translation 6a01281518789630… (all of the seat's roots in one cut). By AI agents, Wed Nov 11 2026. No macro, syntax, notation, axiom, sorry.
-/
import Derived.Test.YtkonhflamnekcaaChecked
import GoSem.Claim
import GoSem.ClaimJoined
import GoSem.ClaimMapViews
import Derived.JoinedTies
import Derived.KernelRfl
namespace Go.Proofs.Ytkonhflamnekcaa
/- THE CELL 'sum', in the pinned program and in every row, IS THE sha256 OF THE DUMP (.gsa) THAT YtkonhflamnekcaaProg.lean LOADS. Nothing in Lean hashes anything: it is a label: what it is worth is what the hold of that sum in a sandbox is worth. -/
noncomputable def Try.pinned : Pinned := { name := "ytkonhflamnekcaa", sum := "6a01281518789630fdd159906fadf5b6875c6c35dab998a7ebc63376690331ba", checked := Try.checked }
namespace Rows
def none {H : Type} : Left H := { results := [], args := [] }

/-- 'laws.FnExactMakeMoves': WHATEVER THE INPUT: true; the input reads as it did. -/
def fnExactMakeMovesSpec : ChangeSpec := { name := "fnExactMakeMoves", fn := fun _ => fun
  | [d1, d2] => { results := [.lit (.bool true)], args := [d1, d2] }
  | _ => none }
def fnExactMakeMovesRow : OpenClaim := { program := "ytkonhflamnekcaa", sum := "6a01281518789630fdd159906fadf5b6875c6c35dab998a7ebc63376690331ba", func := "loop.example/g01208/laws.FnExactMakeMoves", spec := "fnExactMakeMoves", plainKeys := false, apart := false }
def FnExactMakeMovesSaid : Prop := fnExactMakeMovesRow.holds Try.pinned (OpenSpec.ofChange fnExactMakeMovesSpec)

/-- ITS FALSE NEIGHBOUR: 'it returns false'. Refute it at one input. -/
def fnExactMakeMovesWrong : ChangeSpec := { name := "fnExactMakeMoves", fn := fun _ => fun
  | [d1, d2] => { results := [.lit (.bool false)], args := [d1, d2] }
  | _ => none }
def FnExactMakeMovesWrongFalsely : Prop := fnExactMakeMovesRow.holds Try.pinned (OpenSpec.ofChange fnExactMakeMovesWrong)

/-- 'laws.FnExactStatesAlong': WHATEVER THE INPUT: true; the input reads as it did. -/
def fnExactStatesAlongSpec : ChangeSpec := { name := "fnExactStatesAlong", fn := fun _ => fun
  | [d1, d2] => { results := [.lit (.bool true)], args := [d1, d2] }
  | _ => none }
def fnExactStatesAlongRow : OpenClaim := { program := "ytkonhflamnekcaa", sum := "6a01281518789630fdd159906fadf5b6875c6c35dab998a7ebc63376690331ba", func := "loop.example/g01208/laws.FnExactStatesAlong", spec := "fnExactStatesAlong", plainKeys := false, apart := false }
def FnExactStatesAlongSaid : Prop := fnExactStatesAlongRow.holds Try.pinned (OpenSpec.ofChange fnExactStatesAlongSpec)

/-- ITS FALSE NEIGHBOUR: 'it returns false'. Refute it at one input. -/
def fnExactStatesAlongWrong : ChangeSpec := { name := "fnExactStatesAlong", fn := fun _ => fun
  | [d1, d2] => { results := [.lit (.bool false)], args := [d1, d2] }
  | _ => none }
def FnExactStatesAlongWrongFalsely : Prop := fnExactStatesAlongRow.holds Try.pinned (OpenSpec.ofChange fnExactStatesAlongWrong)

/-- 'laws.FnExactTakenIn': WHATEVER THE INPUT: true; the input reads as it did. -/
def fnExactTakenInSpec : ChangeSpec := { name := "fnExactTakenIn", fn := fun _ => fun
  | [d1, d2] => { results := [.lit (.bool true)], args := [d1, d2] }
  | _ => none }
def fnExactTakenInRow : OpenClaim := { program := "ytkonhflamnekcaa", sum := "6a01281518789630fdd159906fadf5b6875c6c35dab998a7ebc63376690331ba", func := "loop.example/g01208/laws.FnExactTakenIn", spec := "fnExactTakenIn", plainKeys := false, apart := false }
def FnExactTakenInSaid : Prop := fnExactTakenInRow.holds Try.pinned (OpenSpec.ofChange fnExactTakenInSpec)

/-- ITS FALSE NEIGHBOUR: 'it returns false'. Refute it at one input. -/
def fnExactTakenInWrong : ChangeSpec := { name := "fnExactTakenIn", fn := fun _ => fun
  | [d1, d2] => { results := [.lit (.bool false)], args := [d1, d2] }
  | _ => none }
def FnExactTakenInWrongFalsely : Prop := fnExactTakenInRow.holds Try.pinned (OpenSpec.ofChange fnExactTakenInWrong)

/-- 'laws.FnExactMovesOn': WHATEVER THE INPUT: true; the input reads as it did. -/
def fnExactMovesOnSpec : ChangeSpec := { name := "fnExactMovesOn", fn := fun _ => fun
  | [d1, d2] => { results := [.lit (.bool true)], args := [d1, d2] }
  | _ => none }
def fnExactMovesOnRow : OpenClaim := { program := "ytkonhflamnekcaa", sum := "6a01281518789630fdd159906fadf5b6875c6c35dab998a7ebc63376690331ba", func := "loop.example/g01208/laws.FnExactMovesOn", spec := "fnExactMovesOn", plainKeys := false, apart := false }
def FnExactMovesOnSaid : Prop := fnExactMovesOnRow.holds Try.pinned (OpenSpec.ofChange fnExactMovesOnSpec)

/-- ITS FALSE NEIGHBOUR: 'it returns false'. Refute it at one input. -/
def fnExactMovesOnWrong : ChangeSpec := { name := "fnExactMovesOn", fn := fun _ => fun
  | [d1, d2] => { results := [.lit (.bool false)], args := [d1, d2] }
  | _ => none }
def FnExactMovesOnWrongFalsely : Prop := fnExactMovesOnRow.holds Try.pinned (OpenSpec.ofChange fnExactMovesOnWrong)

/-- 'laws.FnExactIsUndone': WHATEVER THE INPUT: true; the input reads as it did. -/
def fnExactIsUndoneSpec : ChangeSpec := { name := "fnExactIsUndone", fn := fun _ => fun
  | [d1, d2] => { results := [.lit (.bool true)], args := [d1, d2] }
  | _ => none }
def fnExactIsUndoneRow : OpenClaim := { program := "ytkonhflamnekcaa", sum := "6a01281518789630fdd159906fadf5b6875c6c35dab998a7ebc63376690331ba", func := "loop.example/g01208/laws.FnExactIsUndone", spec := "fnExactIsUndone", plainKeys := false, apart := false }
def FnExactIsUndoneSaid : Prop := fnExactIsUndoneRow.holds Try.pinned (OpenSpec.ofChange fnExactIsUndoneSpec)

/-- ITS FALSE NEIGHBOUR: 'it returns false'. Refute it at one input. -/
def fnExactIsUndoneWrong : ChangeSpec := { name := "fnExactIsUndone", fn := fun _ => fun
  | [d1, d2] => { results := [.lit (.bool false)], args := [d1, d2] }
  | _ => none }
def FnExactIsUndoneWrongFalsely : Prop := fnExactIsUndoneRow.holds Try.pinned (OpenSpec.ofChange fnExactIsUndoneWrong)

/-- 'laws.FnExactSwapVessels': WHATEVER THE INPUT: true; the input reads as it did. -/
def fnExactSwapVesselsSpec : ChangeSpec := { name := "fnExactSwapVessels", fn := fun _ => fun
  | [d1, d2, d3] => { results := [.lit (.bool true)], args := [d1, d2, d3] }
  | _ => none }
def fnExactSwapVesselsRow : OpenClaim := { program := "ytkonhflamnekcaa", sum := "6a01281518789630fdd159906fadf5b6875c6c35dab998a7ebc63376690331ba", func := "loop.example/g01208/laws.FnExactSwapVessels", spec := "fnExactSwapVessels", plainKeys := false, apart := false }
def FnExactSwapVesselsSaid : Prop := fnExactSwapVesselsRow.holds Try.pinned (OpenSpec.ofChange fnExactSwapVesselsSpec)

/-- ITS FALSE NEIGHBOUR: 'it returns false'. Refute it at one input. -/
def fnExactSwapVesselsWrong : ChangeSpec := { name := "fnExactSwapVessels", fn := fun _ => fun
  | [d1, d2, d3] => { results := [.lit (.bool false)], args := [d1, d2, d3] }
  | _ => none }
def FnExactSwapVesselsWrongFalsely : Prop := fnExactSwapVesselsRow.holds Try.pinned (OpenSpec.ofChange fnExactSwapVesselsWrong)

/-- 'laws.FnExactScaleVessels': WHATEVER THE INPUT: true; the input reads as it did. -/
def fnExactScaleVesselsSpec : ChangeSpec := { name := "fnExactScaleVessels", fn := fun _ => fun
  | [d1, d2] => { results := [.lit (.bool true)], args := [d1, d2] }
  | _ => none }
def fnExactScaleVesselsRow : OpenClaim := { program := "ytkonhflamnekcaa", sum := "6a01281518789630fdd159906fadf5b6875c6c35dab998a7ebc63376690331ba", func := "loop.example/g01208/laws.FnExactScaleVessels", spec := "fnExactScaleVessels", plainKeys := false, apart := false }
def FnExactScaleVesselsSaid : Prop := fnExactScaleVesselsRow.holds Try.pinned (OpenSpec.ofChange fnExactScaleVesselsSpec)

/-- ITS FALSE NEIGHBOUR: 'it returns false'. Refute it at one input. -/
def fnExactScaleVesselsWrong : ChangeSpec := { name := "fnExactScaleVessels", fn := fun _ => fun
  | [d1, d2] => { results := [.lit (.bool false)], args := [d1, d2] }
  | _ => none }
def FnExactScaleVesselsWrongFalsely : Prop := fnExactScaleVesselsRow.holds Try.pinned (OpenSpec.ofChange fnExactScaleVesselsWrong)

/-- 'laws.FnExactLeastScale': WHATEVER THE INPUT: true; the input reads as it did. -/
def fnExactLeastScaleSpec : ChangeSpec := { name := "fnExactLeastScale", fn := fun _ => fun
  | [d] => { results := [.lit (.bool true)], args := [d] }
  | _ => none }
def fnExactLeastScaleRow : OpenClaim := { program := "ytkonhflamnekcaa", sum := "6a01281518789630fdd159906fadf5b6875c6c35dab998a7ebc63376690331ba", func := "loop.example/g01208/laws.FnExactLeastScale", spec := "fnExactLeastScale", plainKeys := false, apart := false }
def FnExactLeastScaleSaid : Prop := fnExactLeastScaleRow.holds Try.pinned (OpenSpec.ofChange fnExactLeastScaleSpec)

/-- ITS FALSE NEIGHBOUR: 'it returns false'. Refute it at one input. -/
def fnExactLeastScaleWrong : ChangeSpec := { name := "fnExactLeastScale", fn := fun _ => fun
  | [d] => { results := [.lit (.bool false)], args := [d] }
  | _ => none }
def FnExactLeastScaleWrongFalsely : Prop := fnExactLeastScaleRow.holds Try.pinned (OpenSpec.ofChange fnExactLeastScaleWrong)

/- THE SECOND FORM. 'bulk': how many values and letters a reading holds, each counted each time it is reached (what is shared counts as often as it is met; a slice's spare places count too). A statement '..UptoSaid' is the law's where the arguments, and the package variables that the reading takes, are together of bulk at most 1048576: NARROWER than '..Said'. Prove '..Said' where nothing that the law and all that it calls make is longer than what came in: it says more and counts as full. Else prove '..UptoSaid'. A law counts once. -/
mutual
def uptoBulk {H : Type} : DataW H → Nat
  | .lit (.string bytes) => bytes.length + 1
  | .lit _ => 1
  | .nil => 1
  | .ptr d => uptoBulk d + 1
  | .slice elems spare => uptoBulkAll elems + uptoBulkAll spare + 1
  | .agg parts => uptoBulkAll parts + 1
  | .iface _ d => uptoBulk d + 1
  | .map entries => uptoBulkEntries entries + 1
  | .held _ => 1
def uptoBulkAll {H : Type} : List (DataW H) → Nat
  | [] => 0
  | d :: r => uptoBulk d + uptoBulkAll r
def uptoBulkEntries {H : Type} : List (Lit × DataW H) → Nat
  | [] => 0
  | x :: r => uptoBulkEntry x + uptoBulkEntries r
def uptoBulkEntry {H : Type} : Lit × DataW H → Nat
  | (.string bytes, d) => bytes.length + uptoBulk d + 1
  | (_, d) => uptoBulk d + 1
 end
def uptoSmall : (H : Type) → List (DataW H) → Bool := fun _ ds => decide (uptoBulkAll ds ≤ 1048576)
def OpenSpec.upto (s : _root_.Go.ChangeSpec) : _root_.Go.OpenSpec := { _root_.Go.OpenSpec.ofChange s with cond := some uptoSmall }

/-- 'laws.FnExactMakeMoves', WHERE WHAT IT READS IS OF BULK AT MOST 1048576: true; the input reads as it did. -/
def fnExactMakeMovesUptoRow : OpenClaim := { program := "ytkonhflamnekcaa", sum := "6a01281518789630fdd159906fadf5b6875c6c35dab998a7ebc63376690331ba", func := "loop.example/g01208/laws.FnExactMakeMoves", spec := "fnExactMakeMoves", plainKeys := false, apart := false, narrowed := true }
def FnExactMakeMovesUptoSaid : Prop := fnExactMakeMovesUptoRow.holds Try.pinned (OpenSpec.upto fnExactMakeMovesSpec)

/-- 'laws.FnExactStatesAlong', WHERE WHAT IT READS IS OF BULK AT MOST 1048576: true; the input reads as it did. -/
def fnExactStatesAlongUptoRow : OpenClaim := { program := "ytkonhflamnekcaa", sum := "6a01281518789630fdd159906fadf5b6875c6c35dab998a7ebc63376690331ba", func := "loop.example/g01208/laws.FnExactStatesAlong", spec := "fnExactStatesAlong", plainKeys := false, apart := false, narrowed := true }
def FnExactStatesAlongUptoSaid : Prop := fnExactStatesAlongUptoRow.holds Try.pinned (OpenSpec.upto fnExactStatesAlongSpec)

/-- 'laws.FnExactTakenIn', WHERE WHAT IT READS IS OF BULK AT MOST 1048576: true; the input reads as it did. -/
def fnExactTakenInUptoRow : OpenClaim := { program := "ytkonhflamnekcaa", sum := "6a01281518789630fdd159906fadf5b6875c6c35dab998a7ebc63376690331ba", func := "loop.example/g01208/laws.FnExactTakenIn", spec := "fnExactTakenIn", plainKeys := false, apart := false, narrowed := true }
def FnExactTakenInUptoSaid : Prop := fnExactTakenInUptoRow.holds Try.pinned (OpenSpec.upto fnExactTakenInSpec)

/-- 'laws.FnExactMovesOn', WHERE WHAT IT READS IS OF BULK AT MOST 1048576: true; the input reads as it did. -/
def fnExactMovesOnUptoRow : OpenClaim := { program := "ytkonhflamnekcaa", sum := "6a01281518789630fdd159906fadf5b6875c6c35dab998a7ebc63376690331ba", func := "loop.example/g01208/laws.FnExactMovesOn", spec := "fnExactMovesOn", plainKeys := false, apart := false, narrowed := true }
def FnExactMovesOnUptoSaid : Prop := fnExactMovesOnUptoRow.holds Try.pinned (OpenSpec.upto fnExactMovesOnSpec)

/-- 'laws.FnExactIsUndone', WHERE WHAT IT READS IS OF BULK AT MOST 1048576: true; the input reads as it did. -/
def fnExactIsUndoneUptoRow : OpenClaim := { program := "ytkonhflamnekcaa", sum := "6a01281518789630fdd159906fadf5b6875c6c35dab998a7ebc63376690331ba", func := "loop.example/g01208/laws.FnExactIsUndone", spec := "fnExactIsUndone", plainKeys := false, apart := false, narrowed := true }
def FnExactIsUndoneUptoSaid : Prop := fnExactIsUndoneUptoRow.holds Try.pinned (OpenSpec.upto fnExactIsUndoneSpec)

/-- 'laws.FnExactSwapVessels', WHERE WHAT IT READS IS OF BULK AT MOST 1048576: true; the input reads as it did. -/
def fnExactSwapVesselsUptoRow : OpenClaim := { program := "ytkonhflamnekcaa", sum := "6a01281518789630fdd159906fadf5b6875c6c35dab998a7ebc63376690331ba", func := "loop.example/g01208/laws.FnExactSwapVessels", spec := "fnExactSwapVessels", plainKeys := false, apart := false, narrowed := true }
def FnExactSwapVesselsUptoSaid : Prop := fnExactSwapVesselsUptoRow.holds Try.pinned (OpenSpec.upto fnExactSwapVesselsSpec)

/-- 'laws.FnExactScaleVessels', WHERE WHAT IT READS IS OF BULK AT MOST 1048576: true; the input reads as it did. -/
def fnExactScaleVesselsUptoRow : OpenClaim := { program := "ytkonhflamnekcaa", sum := "6a01281518789630fdd159906fadf5b6875c6c35dab998a7ebc63376690331ba", func := "loop.example/g01208/laws.FnExactScaleVessels", spec := "fnExactScaleVessels", plainKeys := false, apart := false, narrowed := true }
def FnExactScaleVesselsUptoSaid : Prop := fnExactScaleVesselsUptoRow.holds Try.pinned (OpenSpec.upto fnExactScaleVesselsSpec)

/-- 'laws.FnExactLeastScale', WHERE WHAT IT READS IS OF BULK AT MOST 1048576: true; the input reads as it did. -/
def fnExactLeastScaleUptoRow : OpenClaim := { program := "ytkonhflamnekcaa", sum := "6a01281518789630fdd159906fadf5b6875c6c35dab998a7ebc63376690331ba", func := "loop.example/g01208/laws.FnExactLeastScale", spec := "fnExactLeastScale", plainKeys := false, apart := false, narrowed := true }
def FnExactLeastScaleUptoSaid : Prop := fnExactLeastScaleUptoRow.holds Try.pinned (OpenSpec.upto fnExactLeastScaleSpec)

end Rows
end Go.Proofs.Ytkonhflamnekcaa
