/-
  No cell of these rows narrows 'for every input' (looked for: loops, veiled, ifaces, maps, wideKeys, modest, calm, conditions, laid).
  DERIVED. THE GIVEN ROWS OF THIS SEAT. 12 by the template 'for every input the law returns true; each argument reads behind the call as it read before'; 0 by the template 'total and deterministic' (their statements: YtkonhflamnekcabTotals.lean).
  GIVEN WITH THE SEED: the statements are not yours to turn. If you find one false, say at which input.
  Laid BY PROGRAM, IN A SANDBOX (cutbox-rows.mjs): the forced cells as the released guide's own fill.sh prints them over the translation c86e416deeb4f78a… (all of the seat's roots in one cut). By AI agents, Wed Nov 11 2026. No macro, syntax, notation, axiom, sorry.
-/
import Derived.Test.YtkonhflamnekcabChecked
import GoSem.Claim
import GoSem.ClaimJoined
import GoSem.ClaimMapViews
import Derived.JoinedTies
import Derived.KernelRfl
namespace Go.Proofs.Ytkonhflamnekcab
/- THE CELL 'sum', in the pinned program and in every row, IS THE sha256 OF THE DUMP (.gsa) THAT YtkonhflamnekcabProg.lean LOADS. Nothing in Lean hashes anything: it is a label: what it is worth is what the hold of that sum in a sandbox is worth. -/
noncomputable def Try.pinned : Pinned := { name := "ytkonhflamnekcab", sum := "c86e416deeb4f78a53a4d1a11ea9aced04549c9e028ecd563e9949c0add1464b", checked := Try.checked }
namespace Rows
def none {H : Type} : Left H := { results := [], args := [] }

/-- 'laws.FnExactCountStates': WHATEVER THE INPUT: true; the input reads as it did. -/
def fnExactCountStatesSpec : ChangeSpec := { name := "fnExactCountStates", fn := fun _ => fun
  | [d1, d2] => { results := [.lit (.bool true)], args := [d1, d2] }
  | _ => none }
def fnExactCountStatesRow : OpenClaim := { program := "ytkonhflamnekcab", sum := "c86e416deeb4f78a53a4d1a11ea9aced04549c9e028ecd563e9949c0add1464b", func := "loop.example/g01208/laws.FnExactCountStates", spec := "fnExactCountStates", plainKeys := false, apart := false }
def FnExactCountStatesSaid : Prop := fnExactCountStatesRow.holds Try.pinned (OpenSpec.ofChange fnExactCountStatesSpec)

/-- ITS FALSE NEIGHBOUR: 'it returns false'. Refute it at one input. -/
def fnExactCountStatesWrong : ChangeSpec := { name := "fnExactCountStates", fn := fun _ => fun
  | [d1, d2] => { results := [.lit (.bool false)], args := [d1, d2] }
  | _ => none }
def FnExactCountStatesWrongFalsely : Prop := fnExactCountStatesRow.holds Try.pinned (OpenSpec.ofChange fnExactCountStatesWrong)

/-- 'laws.FnExactIsReached': WHATEVER THE INPUT: true; the input reads as it did. -/
def fnExactIsReachedSpec : ChangeSpec := { name := "fnExactIsReached", fn := fun _ => fun
  | [d1, d2, d3] => { results := [.lit (.bool true)], args := [d1, d2, d3] }
  | _ => none }
def fnExactIsReachedRow : OpenClaim := { program := "ytkonhflamnekcab", sum := "c86e416deeb4f78a53a4d1a11ea9aced04549c9e028ecd563e9949c0add1464b", func := "loop.example/g01208/laws.FnExactIsReached", spec := "fnExactIsReached", plainKeys := false, apart := false }
def FnExactIsReachedSaid : Prop := fnExactIsReachedRow.holds Try.pinned (OpenSpec.ofChange fnExactIsReachedSpec)

/-- ITS FALSE NEIGHBOUR: 'it returns false'. Refute it at one input. -/
def fnExactIsReachedWrong : ChangeSpec := { name := "fnExactIsReached", fn := fun _ => fun
  | [d1, d2, d3] => { results := [.lit (.bool false)], args := [d1, d2, d3] }
  | _ => none }
def FnExactIsReachedWrongFalsely : Prop := fnExactIsReachedRow.holds Try.pinned (OpenSpec.ofChange fnExactIsReachedWrong)

/-- 'laws.FnExactPlanTo': WHATEVER THE INPUT: true; the input reads as it did. -/
def fnExactPlanToSpec : ChangeSpec := { name := "fnExactPlanTo", fn := fun _ => fun
  | [d1, d2, d3] => { results := [.lit (.bool true)], args := [d1, d2, d3] }
  | _ => none }
def fnExactPlanToRow : OpenClaim := { program := "ytkonhflamnekcab", sum := "c86e416deeb4f78a53a4d1a11ea9aced04549c9e028ecd563e9949c0add1464b", func := "loop.example/g01208/laws.FnExactPlanTo", spec := "fnExactPlanTo", plainKeys := false, apart := false }
def FnExactPlanToSaid : Prop := fnExactPlanToRow.holds Try.pinned (OpenSpec.ofChange fnExactPlanToSpec)

/-- ITS FALSE NEIGHBOUR: 'it returns false'. Refute it at one input. -/
def fnExactPlanToWrong : ChangeSpec := { name := "fnExactPlanTo", fn := fun _ => fun
  | [d1, d2, d3] => { results := [.lit (.bool false)], args := [d1, d2, d3] }
  | _ => none }
def FnExactPlanToWrongFalsely : Prop := fnExactPlanToRow.holds Try.pinned (OpenSpec.ofChange fnExactPlanToWrong)

/-- 'laws.FnExactPlanToAmount': WHATEVER THE INPUT: true; the input reads as it did. -/
def fnExactPlanToAmountSpec : ChangeSpec := { name := "fnExactPlanToAmount", fn := fun _ => fun
  | [d1, d2, d3] => { results := [.lit (.bool true)], args := [d1, d2, d3] }
  | _ => none }
def fnExactPlanToAmountRow : OpenClaim := { program := "ytkonhflamnekcab", sum := "c86e416deeb4f78a53a4d1a11ea9aced04549c9e028ecd563e9949c0add1464b", func := "loop.example/g01208/laws.FnExactPlanToAmount", spec := "fnExactPlanToAmount", plainKeys := false, apart := false }
def FnExactPlanToAmountSaid : Prop := fnExactPlanToAmountRow.holds Try.pinned (OpenSpec.ofChange fnExactPlanToAmountSpec)

/-- ITS FALSE NEIGHBOUR: 'it returns false'. Refute it at one input. -/
def fnExactPlanToAmountWrong : ChangeSpec := { name := "fnExactPlanToAmount", fn := fun _ => fun
  | [d1, d2, d3] => { results := [.lit (.bool false)], args := [d1, d2, d3] }
  | _ => none }
def FnExactPlanToAmountWrongFalsely : Prop := fnExactPlanToAmountRow.holds Try.pinned (OpenSpec.ofChange fnExactPlanToAmountWrong)

/-- 'laws.FnExactAmountsOf': WHATEVER THE INPUT: true; the input reads as it did. -/
def fnExactAmountsOfSpec : ChangeSpec := { name := "fnExactAmountsOf", fn := fun _ => fun
  | [d1, d2] => { results := [.lit (.bool true)], args := [d1, d2] }
  | _ => none }
def fnExactAmountsOfRow : OpenClaim := { program := "ytkonhflamnekcab", sum := "c86e416deeb4f78a53a4d1a11ea9aced04549c9e028ecd563e9949c0add1464b", func := "loop.example/g01208/laws.FnExactAmountsOf", spec := "fnExactAmountsOf", recurses := true, plainKeys := false, apart := false }
def FnExactAmountsOfSaid : Prop := fnExactAmountsOfRow.holds Try.pinned (OpenSpec.ofChange fnExactAmountsOfSpec)

/-- ITS FALSE NEIGHBOUR: 'it returns false'. Refute it at one input. -/
def fnExactAmountsOfWrong : ChangeSpec := { name := "fnExactAmountsOf", fn := fun _ => fun
  | [d1, d2] => { results := [.lit (.bool false)], args := [d1, d2] }
  | _ => none }
def FnExactAmountsOfWrongFalsely : Prop := fnExactAmountsOfRow.holds Try.pinned (OpenSpec.ofChange fnExactAmountsOfWrong)

/-- 'laws.FnExactSumsOf': WHATEVER THE INPUT: true; the input reads as it did. -/
def fnExactSumsOfSpec : ChangeSpec := { name := "fnExactSumsOf", fn := fun _ => fun
  | [d] => { results := [.lit (.bool true)], args := [d] }
  | _ => none }
def fnExactSumsOfRow : OpenClaim := { program := "ytkonhflamnekcab", sum := "c86e416deeb4f78a53a4d1a11ea9aced04549c9e028ecd563e9949c0add1464b", func := "loop.example/g01208/laws.FnExactSumsOf", spec := "fnExactSumsOf", recurses := true, plainKeys := false, apart := false }
def FnExactSumsOfSaid : Prop := fnExactSumsOfRow.holds Try.pinned (OpenSpec.ofChange fnExactSumsOfSpec)

/-- ITS FALSE NEIGHBOUR: 'it returns false'. Refute it at one input. -/
def fnExactSumsOfWrong : ChangeSpec := { name := "fnExactSumsOf", fn := fun _ => fun
  | [d] => { results := [.lit (.bool false)], args := [d] }
  | _ => none }
def FnExactSumsOfWrongFalsely : Prop := fnExactSumsOfRow.holds Try.pinned (OpenSpec.ofChange fnExactSumsOfWrong)

/-- 'laws.FnExactFarthestState': WHATEVER THE INPUT: true; the input reads as it did. -/
def fnExactFarthestStateSpec : ChangeSpec := { name := "fnExactFarthestState", fn := fun _ => fun
  | [d1, d2] => { results := [.lit (.bool true)], args := [d1, d2] }
  | _ => none }
def fnExactFarthestStateRow : OpenClaim := { program := "ytkonhflamnekcab", sum := "c86e416deeb4f78a53a4d1a11ea9aced04549c9e028ecd563e9949c0add1464b", func := "loop.example/g01208/laws.FnExactFarthestState", spec := "fnExactFarthestState", unfollowed := true, recurses := true, plainKeys := false, apart := false }
def FnExactFarthestStateSaid : Prop := fnExactFarthestStateRow.holds Try.pinned (OpenSpec.ofChange fnExactFarthestStateSpec)

/-- ITS FALSE NEIGHBOUR: 'it returns false'. Refute it at one input. -/
def fnExactFarthestStateWrong : ChangeSpec := { name := "fnExactFarthestState", fn := fun _ => fun
  | [d1, d2] => { results := [.lit (.bool false)], args := [d1, d2] }
  | _ => none }
def FnExactFarthestStateWrongFalsely : Prop := fnExactFarthestStateRow.holds Try.pinned (OpenSpec.ofChange fnExactFarthestStateWrong)

/-- 'laws.FnExactLayersOf': WHATEVER THE INPUT: true; the input reads as it did. -/
def fnExactLayersOfSpec : ChangeSpec := { name := "fnExactLayersOf", fn := fun _ => fun
  | [d1, d2] => { results := [.lit (.bool true)], args := [d1, d2] }
  | _ => none }
def fnExactLayersOfRow : OpenClaim := { program := "ytkonhflamnekcab", sum := "c86e416deeb4f78a53a4d1a11ea9aced04549c9e028ecd563e9949c0add1464b", func := "loop.example/g01208/laws.FnExactLayersOf", spec := "fnExactLayersOf", plainKeys := false, apart := false }
def FnExactLayersOfSaid : Prop := fnExactLayersOfRow.holds Try.pinned (OpenSpec.ofChange fnExactLayersOfSpec)

/-- ITS FALSE NEIGHBOUR: 'it returns false'. Refute it at one input. -/
def fnExactLayersOfWrong : ChangeSpec := { name := "fnExactLayersOf", fn := fun _ => fun
  | [d1, d2] => { results := [.lit (.bool false)], args := [d1, d2] }
  | _ => none }
def FnExactLayersOfWrongFalsely : Prop := fnExactLayersOfRow.holds Try.pinned (OpenSpec.ofChange fnExactLayersOfWrong)

/-- 'laws.FnExactCountPlans': WHATEVER THE INPUT: true; the input reads as it did. -/
def fnExactCountPlansSpec : ChangeSpec := { name := "fnExactCountPlans", fn := fun _ => fun
  | [d1, d2, d3] => { results := [.lit (.bool true)], args := [d1, d2, d3] }
  | _ => none }
def fnExactCountPlansRow : OpenClaim := { program := "ytkonhflamnekcab", sum := "c86e416deeb4f78a53a4d1a11ea9aced04549c9e028ecd563e9949c0add1464b", func := "loop.example/g01208/laws.FnExactCountPlans", spec := "fnExactCountPlans", plainKeys := false, apart := false }
def FnExactCountPlansSaid : Prop := fnExactCountPlansRow.holds Try.pinned (OpenSpec.ofChange fnExactCountPlansSpec)

/-- ITS FALSE NEIGHBOUR: 'it returns false'. Refute it at one input. -/
def fnExactCountPlansWrong : ChangeSpec := { name := "fnExactCountPlans", fn := fun _ => fun
  | [d1, d2, d3] => { results := [.lit (.bool false)], args := [d1, d2, d3] }
  | _ => none }
def FnExactCountPlansWrongFalsely : Prop := fnExactCountPlansRow.holds Try.pinned (OpenSpec.ofChange fnExactCountPlansWrong)

/-- 'laws.FnExactLastingStates': WHATEVER THE INPUT: true; the input reads as it did. -/
def fnExactLastingStatesSpec : ChangeSpec := { name := "fnExactLastingStates", fn := fun _ => fun
  | [d1, d2] => { results := [.lit (.bool true)], args := [d1, d2] }
  | _ => none }
def fnExactLastingStatesRow : OpenClaim := { program := "ytkonhflamnekcab", sum := "c86e416deeb4f78a53a4d1a11ea9aced04549c9e028ecd563e9949c0add1464b", func := "loop.example/g01208/laws.FnExactLastingStates", spec := "fnExactLastingStates", plainKeys := false, apart := false }
def FnExactLastingStatesSaid : Prop := fnExactLastingStatesRow.holds Try.pinned (OpenSpec.ofChange fnExactLastingStatesSpec)

/-- ITS FALSE NEIGHBOUR: 'it returns false'. Refute it at one input. -/
def fnExactLastingStatesWrong : ChangeSpec := { name := "fnExactLastingStates", fn := fun _ => fun
  | [d1, d2] => { results := [.lit (.bool false)], args := [d1, d2] }
  | _ => none }
def FnExactLastingStatesWrongFalsely : Prop := fnExactLastingStatesRow.holds Try.pinned (OpenSpec.ofChange fnExactLastingStatesWrong)

/-- 'laws.FnExactDivisorOf': WHATEVER THE INPUT: true; the input reads as it did. -/
def fnExactDivisorOfSpec : ChangeSpec := { name := "fnExactDivisorOf", fn := fun _ => fun
  | [d] => { results := [.lit (.bool true)], args := [d] }
  | _ => none }
def fnExactDivisorOfRow : OpenClaim := { program := "ytkonhflamnekcab", sum := "c86e416deeb4f78a53a4d1a11ea9aced04549c9e028ecd563e9949c0add1464b", func := "loop.example/g01208/laws.FnExactDivisorOf", spec := "fnExactDivisorOf", plainKeys := false, apart := false }
def FnExactDivisorOfSaid : Prop := fnExactDivisorOfRow.holds Try.pinned (OpenSpec.ofChange fnExactDivisorOfSpec)

/-- ITS FALSE NEIGHBOUR: 'it returns false'. Refute it at one input. -/
def fnExactDivisorOfWrong : ChangeSpec := { name := "fnExactDivisorOf", fn := fun _ => fun
  | [d] => { results := [.lit (.bool false)], args := [d] }
  | _ => none }
def FnExactDivisorOfWrongFalsely : Prop := fnExactDivisorOfRow.holds Try.pinned (OpenSpec.ofChange fnExactDivisorOfWrong)

/-- 'laws.FnExactTwoVesselPlan': WHATEVER THE INPUT: true; the input reads as it did. -/
def fnExactTwoVesselPlanSpec : ChangeSpec := { name := "fnExactTwoVesselPlan", fn := fun _ => fun
  | [d1, d2, d3] => { results := [.lit (.bool true)], args := [d1, d2, d3] }
  | _ => none }
def fnExactTwoVesselPlanRow : OpenClaim := { program := "ytkonhflamnekcab", sum := "c86e416deeb4f78a53a4d1a11ea9aced04549c9e028ecd563e9949c0add1464b", func := "loop.example/g01208/laws.FnExactTwoVesselPlan", spec := "fnExactTwoVesselPlan", plainKeys := false, apart := false }
def FnExactTwoVesselPlanSaid : Prop := fnExactTwoVesselPlanRow.holds Try.pinned (OpenSpec.ofChange fnExactTwoVesselPlanSpec)

/-- ITS FALSE NEIGHBOUR: 'it returns false'. Refute it at one input. -/
def fnExactTwoVesselPlanWrong : ChangeSpec := { name := "fnExactTwoVesselPlan", fn := fun _ => fun
  | [d1, d2, d3] => { results := [.lit (.bool false)], args := [d1, d2, d3] }
  | _ => none }
def FnExactTwoVesselPlanWrongFalsely : Prop := fnExactTwoVesselPlanRow.holds Try.pinned (OpenSpec.ofChange fnExactTwoVesselPlanWrong)

/- THE SECOND FORM. 'bulk': how many values and letters a reading holds, each counted each time it is reached (what is shared counts as often as it is met; a slice's spare places count too). A statement '..UptoSaid' is the law's where the arguments, and the package variables that the reading takes, are together of bulk at most 1048576: NARROWER than '..Said'. Prove '..Said' where nothing that the law and all that it calls make is longer than what came in: it says more and counts as full. Else prove '..UptoSaid'. A law counts once. -/
mutual
def uptoBulk {H : Type} : DataW H → Nat
  | .lit (.string bytes) => bytes.length + 1
  | .lit _ => 1
  | .nil => 1
  | .ptr d => uptoBulk d + 1
  | .slice elems spare => uptoBulkAll elems + uptoBulkAll spare + 1
  | .agg parts => uptoBulkAll parts + 1
  | .iface _ d => uptoBulk d + 1
  | .map entries => uptoBulkEntries entries + 1
  | .held _ => 1
def uptoBulkAll {H : Type} : List (DataW H) → Nat
  | [] => 0
  | d :: r => uptoBulk d + uptoBulkAll r
def uptoBulkEntries {H : Type} : List (Lit × DataW H) → Nat
  | [] => 0
  | x :: r => uptoBulkEntry x + uptoBulkEntries r
def uptoBulkEntry {H : Type} : Lit × DataW H → Nat
  | (.string bytes, d) => bytes.length + uptoBulk d + 1
  | (_, d) => uptoBulk d + 1
 end
def uptoSmall : (H : Type) → List (DataW H) → Bool := fun _ ds => decide (uptoBulkAll ds ≤ 1048576)
def OpenSpec.upto (s : _root_.Go.ChangeSpec) : _root_.Go.OpenSpec := { _root_.Go.OpenSpec.ofChange s with cond := some uptoSmall }

/-- 'laws.FnExactCountStates', WHERE WHAT IT READS IS OF BULK AT MOST 1048576: true; the input reads as it did. -/
def fnExactCountStatesUptoRow : OpenClaim := { program := "ytkonhflamnekcab", sum := "c86e416deeb4f78a53a4d1a11ea9aced04549c9e028ecd563e9949c0add1464b", func := "loop.example/g01208/laws.FnExactCountStates", spec := "fnExactCountStates", plainKeys := false, apart := false, narrowed := true }
def FnExactCountStatesUptoSaid : Prop := fnExactCountStatesUptoRow.holds Try.pinned (OpenSpec.upto fnExactCountStatesSpec)

/-- 'laws.FnExactIsReached', WHERE WHAT IT READS IS OF BULK AT MOST 1048576: true; the input reads as it did. -/
def fnExactIsReachedUptoRow : OpenClaim := { program := "ytkonhflamnekcab", sum := "c86e416deeb4f78a53a4d1a11ea9aced04549c9e028ecd563e9949c0add1464b", func := "loop.example/g01208/laws.FnExactIsReached", spec := "fnExactIsReached", plainKeys := false, apart := false, narrowed := true }
def FnExactIsReachedUptoSaid : Prop := fnExactIsReachedUptoRow.holds Try.pinned (OpenSpec.upto fnExactIsReachedSpec)

/-- 'laws.FnExactPlanTo', WHERE WHAT IT READS IS OF BULK AT MOST 1048576: true; the input reads as it did. -/
def fnExactPlanToUptoRow : OpenClaim := { program := "ytkonhflamnekcab", sum := "c86e416deeb4f78a53a4d1a11ea9aced04549c9e028ecd563e9949c0add1464b", func := "loop.example/g01208/laws.FnExactPlanTo", spec := "fnExactPlanTo", plainKeys := false, apart := false, narrowed := true }
def FnExactPlanToUptoSaid : Prop := fnExactPlanToUptoRow.holds Try.pinned (OpenSpec.upto fnExactPlanToSpec)

/-- 'laws.FnExactPlanToAmount', WHERE WHAT IT READS IS OF BULK AT MOST 1048576: true; the input reads as it did. -/
def fnExactPlanToAmountUptoRow : OpenClaim := { program := "ytkonhflamnekcab", sum := "c86e416deeb4f78a53a4d1a11ea9aced04549c9e028ecd563e9949c0add1464b", func := "loop.example/g01208/laws.FnExactPlanToAmount", spec := "fnExactPlanToAmount", plainKeys := false, apart := false, narrowed := true }
def FnExactPlanToAmountUptoSaid : Prop := fnExactPlanToAmountUptoRow.holds Try.pinned (OpenSpec.upto fnExactPlanToAmountSpec)

/-- 'laws.FnExactAmountsOf', WHERE WHAT IT READS IS OF BULK AT MOST 1048576: true; the input reads as it did. -/
def fnExactAmountsOfUptoRow : OpenClaim := { program := "ytkonhflamnekcab", sum := "c86e416deeb4f78a53a4d1a11ea9aced04549c9e028ecd563e9949c0add1464b", func := "loop.example/g01208/laws.FnExactAmountsOf", spec := "fnExactAmountsOf", recurses := true, plainKeys := false, apart := false, narrowed := true }
def FnExactAmountsOfUptoSaid : Prop := fnExactAmountsOfUptoRow.holds Try.pinned (OpenSpec.upto fnExactAmountsOfSpec)

/-- 'laws.FnExactSumsOf', WHERE WHAT IT READS IS OF BULK AT MOST 1048576: true; the input reads as it did. -/
def fnExactSumsOfUptoRow : OpenClaim := { program := "ytkonhflamnekcab", sum := "c86e416deeb4f78a53a4d1a11ea9aced04549c9e028ecd563e9949c0add1464b", func := "loop.example/g01208/laws.FnExactSumsOf", spec := "fnExactSumsOf", recurses := true, plainKeys := false, apart := false, narrowed := true }
def FnExactSumsOfUptoSaid : Prop := fnExactSumsOfUptoRow.holds Try.pinned (OpenSpec.upto fnExactSumsOfSpec)

/-- 'laws.FnExactFarthestState', WHERE WHAT IT READS IS OF BULK AT MOST 1048576: true; the input reads as it did. -/
def fnExactFarthestStateUptoRow : OpenClaim := { program := "ytkonhflamnekcab", sum := "c86e416deeb4f78a53a4d1a11ea9aced04549c9e028ecd563e9949c0add1464b", func := "loop.example/g01208/laws.FnExactFarthestState", spec := "fnExactFarthestState", unfollowed := true, recurses := true, plainKeys := false, apart := false, narrowed := true }
def FnExactFarthestStateUptoSaid : Prop := fnExactFarthestStateUptoRow.holds Try.pinned (OpenSpec.upto fnExactFarthestStateSpec)

/-- 'laws.FnExactLayersOf', WHERE WHAT IT READS IS OF BULK AT MOST 1048576: true; the input reads as it did. -/
def fnExactLayersOfUptoRow : OpenClaim := { program := "ytkonhflamnekcab", sum := "c86e416deeb4f78a53a4d1a11ea9aced04549c9e028ecd563e9949c0add1464b", func := "loop.example/g01208/laws.FnExactLayersOf", spec := "fnExactLayersOf", plainKeys := false, apart := false, narrowed := true }
def FnExactLayersOfUptoSaid : Prop := fnExactLayersOfUptoRow.holds Try.pinned (OpenSpec.upto fnExactLayersOfSpec)

/-- 'laws.FnExactCountPlans', WHERE WHAT IT READS IS OF BULK AT MOST 1048576: true; the input reads as it did. -/
def fnExactCountPlansUptoRow : OpenClaim := { program := "ytkonhflamnekcab", sum := "c86e416deeb4f78a53a4d1a11ea9aced04549c9e028ecd563e9949c0add1464b", func := "loop.example/g01208/laws.FnExactCountPlans", spec := "fnExactCountPlans", plainKeys := false, apart := false, narrowed := true }
def FnExactCountPlansUptoSaid : Prop := fnExactCountPlansUptoRow.holds Try.pinned (OpenSpec.upto fnExactCountPlansSpec)

/-- 'laws.FnExactLastingStates', WHERE WHAT IT READS IS OF BULK AT MOST 1048576: true; the input reads as it did. -/
def fnExactLastingStatesUptoRow : OpenClaim := { program := "ytkonhflamnekcab", sum := "c86e416deeb4f78a53a4d1a11ea9aced04549c9e028ecd563e9949c0add1464b", func := "loop.example/g01208/laws.FnExactLastingStates", spec := "fnExactLastingStates", plainKeys := false, apart := false, narrowed := true }
def FnExactLastingStatesUptoSaid : Prop := fnExactLastingStatesUptoRow.holds Try.pinned (OpenSpec.upto fnExactLastingStatesSpec)

/-- 'laws.FnExactDivisorOf', WHERE WHAT IT READS IS OF BULK AT MOST 1048576: true; the input reads as it did. -/
def fnExactDivisorOfUptoRow : OpenClaim := { program := "ytkonhflamnekcab", sum := "c86e416deeb4f78a53a4d1a11ea9aced04549c9e028ecd563e9949c0add1464b", func := "loop.example/g01208/laws.FnExactDivisorOf", spec := "fnExactDivisorOf", plainKeys := false, apart := false, narrowed := true }
def FnExactDivisorOfUptoSaid : Prop := fnExactDivisorOfUptoRow.holds Try.pinned (OpenSpec.upto fnExactDivisorOfSpec)

/-- 'laws.FnExactTwoVesselPlan', WHERE WHAT IT READS IS OF BULK AT MOST 1048576: true; the input reads as it did. -/
def fnExactTwoVesselPlanUptoRow : OpenClaim := { program := "ytkonhflamnekcab", sum := "c86e416deeb4f78a53a4d1a11ea9aced04549c9e028ecd563e9949c0add1464b", func := "loop.example/g01208/laws.FnExactTwoVesselPlan", spec := "fnExactTwoVesselPlan", plainKeys := false, apart := false, narrowed := true }
def FnExactTwoVesselPlanUptoSaid : Prop := fnExactTwoVesselPlanUptoRow.holds Try.pinned (OpenSpec.upto fnExactTwoVesselPlanSpec)

end Rows
end Go.Proofs.Ytkonhflamnekcab
