/-
  No cell of these rows narrows 'for every input' (looked for: loops, veiled, ifaces, maps, wideKeys, modest, calm, conditions, laid).
  DERIVED. THE GIVEN ROWS OF THIS SEAT. 7 by the template 'for every input the law returns true; each argument reads behind the call as it read before'; 0 by the template 'total and deterministic' (their statements: YtjailklnagfglaaTotals.lean).
  GIVEN WITH THE SEED: the statements are not yours to turn. If you find one false, say at which input.
  Laid BY PROGRAM, IN A SANDBOX (cutbox-rows.mjs): the forced cells as the released guide's own fill.sh prints them over the translation 3fef18561750f76b… (all of the seat's roots in one cut). By AI agents, Wed Nov 11 2026. No macro, syntax, notation, axiom, sorry.
-/
import Derived.Test.YtjailklnagfglaaChecked
import GoSem.Claim
import GoSem.ClaimJoined
import GoSem.ClaimMapViews
import Derived.JoinedTies
import Derived.KernelRfl
namespace Go.Proofs.Ytjailklnagfglaa
/- THE CELL 'sum', in the pinned program and in every row, IS THE sha256 OF THE DUMP (.gsa) THAT YtjailklnagfglaaProg.lean LOADS. Nothing in Lean hashes anything: it is a label: what it is worth is what the hold of that sum in a sandbox is worth. -/
noncomputable def Try.pinned : Pinned := { name := "ytjailklnagfglaa", sum := "3fef18561750f76be4c15d5fed9ac6954efdc7a79ff0dd6b84be5b5e9a55d285", checked := Try.checked }
namespace Rows
def none {H : Type} : Left H := { results := [], args := [] }

/-- 'laws.FnExactCountStates': WHATEVER THE INPUT: true; the input reads as it did. -/
def fnExactCountStatesSpec : ChangeSpec := { name := "fnExactCountStates", fn := fun _ => fun
  | [d1, d2] => { results := [.lit (.bool true)], args := [d1, d2] }
  | _ => none }
def fnExactCountStatesRow : OpenClaim := { program := "ytjailklnagfglaa", sum := "3fef18561750f76be4c15d5fed9ac6954efdc7a79ff0dd6b84be5b5e9a55d285", func := "loop.example/g01208/laws.FnExactCountStates", spec := "fnExactCountStates", plainKeys := false, apart := false }
def FnExactCountStatesSaid : Prop := fnExactCountStatesRow.holds Try.pinned (OpenSpec.ofChange fnExactCountStatesSpec)

/-- ITS FALSE NEIGHBOUR: 'it returns false'. Refute it at one input. -/
def fnExactCountStatesWrong : ChangeSpec := { name := "fnExactCountStates", fn := fun _ => fun
  | [d1, d2] => { results := [.lit (.bool false)], args := [d1, d2] }
  | _ => none }
def FnExactCountStatesWrongFalsely : Prop := fnExactCountStatesRow.holds Try.pinned (OpenSpec.ofChange fnExactCountStatesWrong)

/-- 'laws.FnExactIsReached': WHATEVER THE INPUT: true; the input reads as it did. -/
def fnExactIsReachedSpec : ChangeSpec := { name := "fnExactIsReached", fn := fun _ => fun
  | [d1, d2, d3] => { results := [.lit (.bool true)], args := [d1, d2, d3] }
  | _ => none }
def fnExactIsReachedRow : OpenClaim := { program := "ytjailklnagfglaa", sum := "3fef18561750f76be4c15d5fed9ac6954efdc7a79ff0dd6b84be5b5e9a55d285", func := "loop.example/g01208/laws.FnExactIsReached", spec := "fnExactIsReached", plainKeys := false, apart := false }
def FnExactIsReachedSaid : Prop := fnExactIsReachedRow.holds Try.pinned (OpenSpec.ofChange fnExactIsReachedSpec)

/-- ITS FALSE NEIGHBOUR: 'it returns false'. Refute it at one input. -/
def fnExactIsReachedWrong : ChangeSpec := { name := "fnExactIsReached", fn := fun _ => fun
  | [d1, d2, d3] => { results := [.lit (.bool false)], args := [d1, d2, d3] }
  | _ => none }
def FnExactIsReachedWrongFalsely : Prop := fnExactIsReachedRow.holds Try.pinned (OpenSpec.ofChange fnExactIsReachedWrong)

/-- 'laws.FnExactPlanTo': WHATEVER THE INPUT: true; the input reads as it did. -/
def fnExactPlanToSpec : ChangeSpec := { name := "fnExactPlanTo", fn := fun _ => fun
  | [d1, d2, d3] => { results := [.lit (.bool true)], args := [d1, d2, d3] }
  | _ => none }
def fnExactPlanToRow : OpenClaim := { program := "ytjailklnagfglaa", sum := "3fef18561750f76be4c15d5fed9ac6954efdc7a79ff0dd6b84be5b5e9a55d285", func := "loop.example/g01208/laws.FnExactPlanTo", spec := "fnExactPlanTo", plainKeys := false, apart := false }
def FnExactPlanToSaid : Prop := fnExactPlanToRow.holds Try.pinned (OpenSpec.ofChange fnExactPlanToSpec)

/-- ITS FALSE NEIGHBOUR: 'it returns false'. Refute it at one input. -/
def fnExactPlanToWrong : ChangeSpec := { name := "fnExactPlanTo", fn := fun _ => fun
  | [d1, d2, d3] => { results := [.lit (.bool false)], args := [d1, d2, d3] }
  | _ => none }
def FnExactPlanToWrongFalsely : Prop := fnExactPlanToRow.holds Try.pinned (OpenSpec.ofChange fnExactPlanToWrong)

/-- 'laws.FnExactPlanToAmount': WHATEVER THE INPUT: true; the input reads as it did. -/
def fnExactPlanToAmountSpec : ChangeSpec := { name := "fnExactPlanToAmount", fn := fun _ => fun
  | [d1, d2, d3] => { results := [.lit (.bool true)], args := [d1, d2, d3] }
  | _ => none }
def fnExactPlanToAmountRow : OpenClaim := { program := "ytjailklnagfglaa", sum := "3fef18561750f76be4c15d5fed9ac6954efdc7a79ff0dd6b84be5b5e9a55d285", func := "loop.example/g01208/laws.FnExactPlanToAmount", spec := "fnExactPlanToAmount", plainKeys := false, apart := false }
def FnExactPlanToAmountSaid : Prop := fnExactPlanToAmountRow.holds Try.pinned (OpenSpec.ofChange fnExactPlanToAmountSpec)

/-- ITS FALSE NEIGHBOUR: 'it returns false'. Refute it at one input. -/
def fnExactPlanToAmountWrong : ChangeSpec := { name := "fnExactPlanToAmount", fn := fun _ => fun
  | [d1, d2, d3] => { results := [.lit (.bool false)], args := [d1, d2, d3] }
  | _ => none }
def FnExactPlanToAmountWrongFalsely : Prop := fnExactPlanToAmountRow.holds Try.pinned (OpenSpec.ofChange fnExactPlanToAmountWrong)

/-- 'laws.FnExactLayersOf': WHATEVER THE INPUT: true; the input reads as it did. -/
def fnExactLayersOfSpec : ChangeSpec := { name := "fnExactLayersOf", fn := fun _ => fun
  | [d1, d2] => { results := [.lit (.bool true)], args := [d1, d2] }
  | _ => none }
def fnExactLayersOfRow : OpenClaim := { program := "ytjailklnagfglaa", sum := "3fef18561750f76be4c15d5fed9ac6954efdc7a79ff0dd6b84be5b5e9a55d285", func := "loop.example/g01208/laws.FnExactLayersOf", spec := "fnExactLayersOf", plainKeys := false, apart := false }
def FnExactLayersOfSaid : Prop := fnExactLayersOfRow.holds Try.pinned (OpenSpec.ofChange fnExactLayersOfSpec)

/-- ITS FALSE NEIGHBOUR: 'it returns false'. Refute it at one input. -/
def fnExactLayersOfWrong : ChangeSpec := { name := "fnExactLayersOf", fn := fun _ => fun
  | [d1, d2] => { results := [.lit (.bool false)], args := [d1, d2] }
  | _ => none }
def FnExactLayersOfWrongFalsely : Prop := fnExactLayersOfRow.holds Try.pinned (OpenSpec.ofChange fnExactLayersOfWrong)

/-- 'laws.FnExactTwoVesselPlan': WHATEVER THE INPUT: true; the input reads as it did. -/
def fnExactTwoVesselPlanSpec : ChangeSpec := { name := "fnExactTwoVesselPlan", fn := fun _ => fun
  | [d1, d2, d3] => { results := [.lit (.bool true)], args := [d1, d2, d3] }
  | _ => none }
def fnExactTwoVesselPlanRow : OpenClaim := { program := "ytjailklnagfglaa", sum := "3fef18561750f76be4c15d5fed9ac6954efdc7a79ff0dd6b84be5b5e9a55d285", func := "loop.example/g01208/laws.FnExactTwoVesselPlan", spec := "fnExactTwoVesselPlan", plainKeys := false, apart := false }
def FnExactTwoVesselPlanSaid : Prop := fnExactTwoVesselPlanRow.holds Try.pinned (OpenSpec.ofChange fnExactTwoVesselPlanSpec)

/-- ITS FALSE NEIGHBOUR: 'it returns false'. Refute it at one input. -/
def fnExactTwoVesselPlanWrong : ChangeSpec := { name := "fnExactTwoVesselPlan", fn := fun _ => fun
  | [d1, d2, d3] => { results := [.lit (.bool false)], args := [d1, d2, d3] }
  | _ => none }
def FnExactTwoVesselPlanWrongFalsely : Prop := fnExactTwoVesselPlanRow.holds Try.pinned (OpenSpec.ofChange fnExactTwoVesselPlanWrong)

/-- 'laws.FnExactTwoVesselLength': WHATEVER THE INPUT: true; the input reads as it did. -/
def fnExactTwoVesselLengthSpec : ChangeSpec := { name := "fnExactTwoVesselLength", fn := fun _ => fun
  | [d1, d2, d3] => { results := [.lit (.bool true)], args := [d1, d2, d3] }
  | _ => none }
def fnExactTwoVesselLengthRow : OpenClaim := { program := "ytjailklnagfglaa", sum := "3fef18561750f76be4c15d5fed9ac6954efdc7a79ff0dd6b84be5b5e9a55d285", func := "loop.example/g01208/laws.FnExactTwoVesselLength", spec := "fnExactTwoVesselLength", plainKeys := false, apart := false }
def FnExactTwoVesselLengthSaid : Prop := fnExactTwoVesselLengthRow.holds Try.pinned (OpenSpec.ofChange fnExactTwoVesselLengthSpec)

/-- ITS FALSE NEIGHBOUR: 'it returns false'. Refute it at one input. -/
def fnExactTwoVesselLengthWrong : ChangeSpec := { name := "fnExactTwoVesselLength", fn := fun _ => fun
  | [d1, d2, d3] => { results := [.lit (.bool false)], args := [d1, d2, d3] }
  | _ => none }
def FnExactTwoVesselLengthWrongFalsely : Prop := fnExactTwoVesselLengthRow.holds Try.pinned (OpenSpec.ofChange fnExactTwoVesselLengthWrong)

/- THE SECOND FORM. 'bulk': how many values and letters a reading holds, each counted each time it is reached (what is shared counts as often as it is met; a slice's spare places count too). A statement '..UptoSaid' is the law's where the arguments, and the package variables that the reading takes, are together of bulk at most 1048576: NARROWER than '..Said'. Prove '..Said' where nothing that the law and all that it calls make is longer than what came in: it says more and counts as full. Else prove '..UptoSaid'. A law counts once. -/
mutual
def uptoBulk {H : Type} : DataW H → Nat
  | .lit (.string bytes) => bytes.length + 1
  | .lit _ => 1
  | .nil => 1
  | .ptr d => uptoBulk d + 1
  | .slice elems spare => uptoBulkAll elems + uptoBulkAll spare + 1
  | .agg parts => uptoBulkAll parts + 1
  | .iface _ d => uptoBulk d + 1
  | .map entries => uptoBulkEntries entries + 1
  | .held _ => 1
def uptoBulkAll {H : Type} : List (DataW H) → Nat
  | [] => 0
  | d :: r => uptoBulk d + uptoBulkAll r
def uptoBulkEntries {H : Type} : List (Lit × DataW H) → Nat
  | [] => 0
  | x :: r => uptoBulkEntry x + uptoBulkEntries r
def uptoBulkEntry {H : Type} : Lit × DataW H → Nat
  | (.string bytes, d) => bytes.length + uptoBulk d + 1
  | (_, d) => uptoBulk d + 1
 end
def uptoSmall : (H : Type) → List (DataW H) → Bool := fun _ ds => decide (uptoBulkAll ds ≤ 1048576)
def OpenSpec.upto (s : _root_.Go.ChangeSpec) : _root_.Go.OpenSpec := { _root_.Go.OpenSpec.ofChange s with cond := some uptoSmall }

/-- 'laws.FnExactCountStates', WHERE WHAT IT READS IS OF BULK AT MOST 1048576: true; the input reads as it did. -/
def fnExactCountStatesUptoRow : OpenClaim := { program := "ytjailklnagfglaa", sum := "3fef18561750f76be4c15d5fed9ac6954efdc7a79ff0dd6b84be5b5e9a55d285", func := "loop.example/g01208/laws.FnExactCountStates", spec := "fnExactCountStates", plainKeys := false, apart := false, narrowed := true }
def FnExactCountStatesUptoSaid : Prop := fnExactCountStatesUptoRow.holds Try.pinned (OpenSpec.upto fnExactCountStatesSpec)

/-- 'laws.FnExactIsReached', WHERE WHAT IT READS IS OF BULK AT MOST 1048576: true; the input reads as it did. -/
def fnExactIsReachedUptoRow : OpenClaim := { program := "ytjailklnagfglaa", sum := "3fef18561750f76be4c15d5fed9ac6954efdc7a79ff0dd6b84be5b5e9a55d285", func := "loop.example/g01208/laws.FnExactIsReached", spec := "fnExactIsReached", plainKeys := false, apart := false, narrowed := true }
def FnExactIsReachedUptoSaid : Prop := fnExactIsReachedUptoRow.holds Try.pinned (OpenSpec.upto fnExactIsReachedSpec)

/-- 'laws.FnExactPlanTo', WHERE WHAT IT READS IS OF BULK AT MOST 1048576: true; the input reads as it did. -/
def fnExactPlanToUptoRow : OpenClaim := { program := "ytjailklnagfglaa", sum := "3fef18561750f76be4c15d5fed9ac6954efdc7a79ff0dd6b84be5b5e9a55d285", func := "loop.example/g01208/laws.FnExactPlanTo", spec := "fnExactPlanTo", plainKeys := false, apart := false, narrowed := true }
def FnExactPlanToUptoSaid : Prop := fnExactPlanToUptoRow.holds Try.pinned (OpenSpec.upto fnExactPlanToSpec)

/-- 'laws.FnExactPlanToAmount', WHERE WHAT IT READS IS OF BULK AT MOST 1048576: true; the input reads as it did. -/
def fnExactPlanToAmountUptoRow : OpenClaim := { program := "ytjailklnagfglaa", sum := "3fef18561750f76be4c15d5fed9ac6954efdc7a79ff0dd6b84be5b5e9a55d285", func := "loop.example/g01208/laws.FnExactPlanToAmount", spec := "fnExactPlanToAmount", plainKeys := false, apart := false, narrowed := true }
def FnExactPlanToAmountUptoSaid : Prop := fnExactPlanToAmountUptoRow.holds Try.pinned (OpenSpec.upto fnExactPlanToAmountSpec)

/-- 'laws.FnExactLayersOf', WHERE WHAT IT READS IS OF BULK AT MOST 1048576: true; the input reads as it did. -/
def fnExactLayersOfUptoRow : OpenClaim := { program := "ytjailklnagfglaa", sum := "3fef18561750f76be4c15d5fed9ac6954efdc7a79ff0dd6b84be5b5e9a55d285", func := "loop.example/g01208/laws.FnExactLayersOf", spec := "fnExactLayersOf", plainKeys := false, apart := false, narrowed := true }
def FnExactLayersOfUptoSaid : Prop := fnExactLayersOfUptoRow.holds Try.pinned (OpenSpec.upto fnExactLayersOfSpec)

/-- 'laws.FnExactTwoVesselPlan', WHERE WHAT IT READS IS OF BULK AT MOST 1048576: true; the input reads as it did. -/
def fnExactTwoVesselPlanUptoRow : OpenClaim := { program := "ytjailklnagfglaa", sum := "3fef18561750f76be4c15d5fed9ac6954efdc7a79ff0dd6b84be5b5e9a55d285", func := "loop.example/g01208/laws.FnExactTwoVesselPlan", spec := "fnExactTwoVesselPlan", plainKeys := false, apart := false, narrowed := true }
def FnExactTwoVesselPlanUptoSaid : Prop := fnExactTwoVesselPlanUptoRow.holds Try.pinned (OpenSpec.upto fnExactTwoVesselPlanSpec)

/-- 'laws.FnExactTwoVesselLength', WHERE WHAT IT READS IS OF BULK AT MOST 1048576: true; the input reads as it did. -/
def fnExactTwoVesselLengthUptoRow : OpenClaim := { program := "ytjailklnagfglaa", sum := "3fef18561750f76be4c15d5fed9ac6954efdc7a79ff0dd6b84be5b5e9a55d285", func := "loop.example/g01208/laws.FnExactTwoVesselLength", spec := "fnExactTwoVesselLength", plainKeys := false, apart := false, narrowed := true }
def FnExactTwoVesselLengthUptoSaid : Prop := fnExactTwoVesselLengthUptoRow.holds Try.pinned (OpenSpec.upto fnExactTwoVesselLengthSpec)

end Rows
end Go.Proofs.Ytjailklnagfglaa
