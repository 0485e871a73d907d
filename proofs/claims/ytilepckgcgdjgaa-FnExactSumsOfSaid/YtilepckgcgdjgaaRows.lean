/-
  No cell of these rows narrows 'for every input' (looked for: loops, veiled, ifaces, maps, wideKeys, modest, calm, conditions, laid).
  DERIVED. THE GIVEN ROWS OF THIS SEAT. 6 by the template 'for every input the law returns true; each argument reads behind the call as it read before'; 0 by the template 'total and deterministic' (their statements: YtilepckgcgdjgaaTotals.lean).
  GIVEN WITH THE SEED: the statements are not yours to turn. If you find one false, say at which input.
  Laid BY PROGRAM, IN A SANDBOX (cutbox-rows.mjs): the forced cells as the released guide's own fill.sh prints them over the translation 09e879d9617b82e3… (all of the seat's roots in one cut). By AI agents, Wed Nov 11 2026. No macro, syntax, notation, axiom, sorry.
-/
import Derived.Test.YtilepckgcgdjgaaChecked
import GoSem.Claim
import GoSem.ClaimJoined
import GoSem.ClaimMapViews
import Derived.JoinedTies
import Derived.KernelRfl
namespace Go.Proofs.Ytilepckgcgdjgaa
/- THE CELL 'sum', in the pinned program and in every row, IS THE sha256 OF THE DUMP (.gsa) THAT YtilepckgcgdjgaaProg.lean LOADS. Nothing in Lean hashes anything: it is a label: what it is worth is what the hold of that sum in a sandbox is worth. -/
noncomputable def Try.pinned : Pinned := { name := "ytilepckgcgdjgaa", sum := "09e879d9617b82e38bddfebd9d9de24342caaf2ef280289e5bef1f728865fb29", checked := Try.checked }
namespace Rows
def none {H : Type} : Left H := { results := [], args := [] }

/-- 'laws.FnExactAmountsOf': WHATEVER THE INPUT: true; the input reads as it did. -/
def fnExactAmountsOfSpec : ChangeSpec := { name := "fnExactAmountsOf", fn := fun _ => fun
  | [d1, d2] => { results := [.lit (.bool true)], args := [d1, d2] }
  | _ => none }
def fnExactAmountsOfRow : OpenClaim := { program := "ytilepckgcgdjgaa", sum := "09e879d9617b82e38bddfebd9d9de24342caaf2ef280289e5bef1f728865fb29", func := "loop.example/g01208/laws.FnExactAmountsOf", spec := "fnExactAmountsOf", recurses := true, plainKeys := false, apart := false }
def FnExactAmountsOfSaid : Prop := fnExactAmountsOfRow.holds Try.pinned (OpenSpec.ofChange fnExactAmountsOfSpec)

/-- ITS FALSE NEIGHBOUR: 'it returns false'. Refute it at one input. -/
def fnExactAmountsOfWrong : ChangeSpec := { name := "fnExactAmountsOf", fn := fun _ => fun
  | [d1, d2] => { results := [.lit (.bool false)], args := [d1, d2] }
  | _ => none }
def FnExactAmountsOfWrongFalsely : Prop := fnExactAmountsOfRow.holds Try.pinned (OpenSpec.ofChange fnExactAmountsOfWrong)

/-- 'laws.FnExactSumsOf': WHATEVER THE INPUT: true; the input reads as it did. -/
def fnExactSumsOfSpec : ChangeSpec := { name := "fnExactSumsOf", fn := fun _ => fun
  | [d] => { results := [.lit (.bool true)], args := [d] }
  | _ => none }
def fnExactSumsOfRow : OpenClaim := { program := "ytilepckgcgdjgaa", sum := "09e879d9617b82e38bddfebd9d9de24342caaf2ef280289e5bef1f728865fb29", func := "loop.example/g01208/laws.FnExactSumsOf", spec := "fnExactSumsOf", recurses := true, plainKeys := false, apart := false }
def FnExactSumsOfSaid : Prop := fnExactSumsOfRow.holds Try.pinned (OpenSpec.ofChange fnExactSumsOfSpec)

/-- ITS FALSE NEIGHBOUR: 'it returns false'. Refute it at one input. -/
def fnExactSumsOfWrong : ChangeSpec := { name := "fnExactSumsOf", fn := fun _ => fun
  | [d] => { results := [.lit (.bool false)], args := [d] }
  | _ => none }
def FnExactSumsOfWrongFalsely : Prop := fnExactSumsOfRow.holds Try.pinned (OpenSpec.ofChange fnExactSumsOfWrong)

/-- 'laws.FnExactFarthestState': WHATEVER THE INPUT: true; the input reads as it did. -/
def fnExactFarthestStateSpec : ChangeSpec := { name := "fnExactFarthestState", fn := fun _ => fun
  | [d1, d2] => { results := [.lit (.bool true)], args := [d1, d2] }
  | _ => none }
def fnExactFarthestStateRow : OpenClaim := { program := "ytilepckgcgdjgaa", sum := "09e879d9617b82e38bddfebd9d9de24342caaf2ef280289e5bef1f728865fb29", func := "loop.example/g01208/laws.FnExactFarthestState", spec := "fnExactFarthestState", unfollowed := true, recurses := true, plainKeys := false, apart := false }
def FnExactFarthestStateSaid : Prop := fnExactFarthestStateRow.holds Try.pinned (OpenSpec.ofChange fnExactFarthestStateSpec)

/-- ITS FALSE NEIGHBOUR: 'it returns false'. Refute it at one input. -/
def fnExactFarthestStateWrong : ChangeSpec := { name := "fnExactFarthestState", fn := fun _ => fun
  | [d1, d2] => { results := [.lit (.bool false)], args := [d1, d2] }
  | _ => none }
def FnExactFarthestStateWrongFalsely : Prop := fnExactFarthestStateRow.holds Try.pinned (OpenSpec.ofChange fnExactFarthestStateWrong)

/-- 'laws.FnExactLastingStates': WHATEVER THE INPUT: true; the input reads as it did. -/
def fnExactLastingStatesSpec : ChangeSpec := { name := "fnExactLastingStates", fn := fun _ => fun
  | [d1, d2] => { results := [.lit (.bool true)], args := [d1, d2] }
  | _ => none }
def fnExactLastingStatesRow : OpenClaim := { program := "ytilepckgcgdjgaa", sum := "09e879d9617b82e38bddfebd9d9de24342caaf2ef280289e5bef1f728865fb29", func := "loop.example/g01208/laws.FnExactLastingStates", spec := "fnExactLastingStates", plainKeys := false, apart := false }
def FnExactLastingStatesSaid : Prop := fnExactLastingStatesRow.holds Try.pinned (OpenSpec.ofChange fnExactLastingStatesSpec)

/-- ITS FALSE NEIGHBOUR: 'it returns false'. Refute it at one input. -/
def fnExactLastingStatesWrong : ChangeSpec := { name := "fnExactLastingStates", fn := fun _ => fun
  | [d1, d2] => { results := [.lit (.bool false)], args := [d1, d2] }
  | _ => none }
def FnExactLastingStatesWrongFalsely : Prop := fnExactLastingStatesRow.holds Try.pinned (OpenSpec.ofChange fnExactLastingStatesWrong)

/-- 'laws.FnExactLeastWater': WHATEVER THE INPUT: true; the input reads as it did. -/
def fnExactLeastWaterSpec : ChangeSpec := { name := "fnExactLeastWater", fn := fun _ => fun
  | [d1, d2] => { results := [.lit (.bool true)], args := [d1, d2] }
  | _ => none }
def fnExactLeastWaterRow : OpenClaim := { program := "ytilepckgcgdjgaa", sum := "09e879d9617b82e38bddfebd9d9de24342caaf2ef280289e5bef1f728865fb29", func := "loop.example/g01208/laws.FnExactLeastWater", spec := "fnExactLeastWater", unfollowed := true, recurses := true, plainKeys := false, apart := false }
def FnExactLeastWaterSaid : Prop := fnExactLeastWaterRow.holds Try.pinned (OpenSpec.ofChange fnExactLeastWaterSpec)

/-- ITS FALSE NEIGHBOUR: 'it returns false'. Refute it at one input. -/
def fnExactLeastWaterWrong : ChangeSpec := { name := "fnExactLeastWater", fn := fun _ => fun
  | [d1, d2] => { results := [.lit (.bool false)], args := [d1, d2] }
  | _ => none }
def FnExactLeastWaterWrongFalsely : Prop := fnExactLeastWaterRow.holds Try.pinned (OpenSpec.ofChange fnExactLeastWaterWrong)

/-- 'laws.FnExactWaterPlan': WHATEVER THE INPUT: true; the input reads as it did. -/
def fnExactWaterPlanSpec : ChangeSpec := { name := "fnExactWaterPlan", fn := fun _ => fun
  | [d1, d2] => { results := [.lit (.bool true)], args := [d1, d2] }
  | _ => none }
def fnExactWaterPlanRow : OpenClaim := { program := "ytilepckgcgdjgaa", sum := "09e879d9617b82e38bddfebd9d9de24342caaf2ef280289e5bef1f728865fb29", func := "loop.example/g01208/laws.FnExactWaterPlan", spec := "fnExactWaterPlan", unfollowed := true, recurses := true, plainKeys := false, apart := false }
def FnExactWaterPlanSaid : Prop := fnExactWaterPlanRow.holds Try.pinned (OpenSpec.ofChange fnExactWaterPlanSpec)

/-- ITS FALSE NEIGHBOUR: 'it returns false'. Refute it at one input. -/
def fnExactWaterPlanWrong : ChangeSpec := { name := "fnExactWaterPlan", fn := fun _ => fun
  | [d1, d2] => { results := [.lit (.bool false)], args := [d1, d2] }
  | _ => none }
def FnExactWaterPlanWrongFalsely : Prop := fnExactWaterPlanRow.holds Try.pinned (OpenSpec.ofChange fnExactWaterPlanWrong)

/- THE SECOND FORM. 'bulk': how many values and letters a reading holds, each counted each time it is reached (what is shared counts as often as it is met; a slice's spare places count too). A statement '..UptoSaid' is the law's where the arguments, and the package variables that the reading takes, are together of bulk at most 1048576: NARROWER than '..Said'. Prove '..Said' where nothing that the law and all that it calls make is longer than what came in: it says more and counts as full. Else prove '..UptoSaid'. A law counts once. -/
mutual
def uptoBulk {H : Type} : DataW H → Nat
  | .lit (.string bytes) => bytes.length + 1
  | .lit _ => 1
  | .nil => 1
  | .ptr d => uptoBulk d + 1
  | .slice elems spare => uptoBulkAll elems + uptoBulkAll spare + 1
  | .agg parts => uptoBulkAll parts + 1
  | .iface _ d => uptoBulk d + 1
  | .map entries => uptoBulkEntries entries + 1
  | .held _ => 1
def uptoBulkAll {H : Type} : List (DataW H) → Nat
  | [] => 0
  | d :: r => uptoBulk d + uptoBulkAll r
def uptoBulkEntries {H : Type} : List (Lit × DataW H) → Nat
  | [] => 0
  | x :: r => uptoBulkEntry x + uptoBulkEntries r
def uptoBulkEntry {H : Type} : Lit × DataW H → Nat
  | (.string bytes, d) => bytes.length + uptoBulk d + 1
  | (_, d) => uptoBulk d + 1
 end
def uptoSmall : (H : Type) → List (DataW H) → Bool := fun _ ds => decide (uptoBulkAll ds ≤ 1048576)
def OpenSpec.upto (s : _root_.Go.ChangeSpec) : _root_.Go.OpenSpec := { _root_.Go.OpenSpec.ofChange s with cond := some uptoSmall }

/-- 'laws.FnExactAmountsOf', WHERE WHAT IT READS IS OF BULK AT MOST 1048576: true; the input reads as it did. -/
def fnExactAmountsOfUptoRow : OpenClaim := { program := "ytilepckgcgdjgaa", sum := "09e879d9617b82e38bddfebd9d9de24342caaf2ef280289e5bef1f728865fb29", func := "loop.example/g01208/laws.FnExactAmountsOf", spec := "fnExactAmountsOf", recurses := true, plainKeys := false, apart := false, narrowed := true }
def FnExactAmountsOfUptoSaid : Prop := fnExactAmountsOfUptoRow.holds Try.pinned (OpenSpec.upto fnExactAmountsOfSpec)

/-- 'laws.FnExactSumsOf', WHERE WHAT IT READS IS OF BULK AT MOST 1048576: true; the input reads as it did. -/
def fnExactSumsOfUptoRow : OpenClaim := { program := "ytilepckgcgdjgaa", sum := "09e879d9617b82e38bddfebd9d9de24342caaf2ef280289e5bef1f728865fb29", func := "loop.example/g01208/laws.FnExactSumsOf", spec := "fnExactSumsOf", recurses := true, plainKeys := false, apart := false, narrowed := true }
def FnExactSumsOfUptoSaid : Prop := fnExactSumsOfUptoRow.holds Try.pinned (OpenSpec.upto fnExactSumsOfSpec)

/-- 'laws.FnExactFarthestState', WHERE WHAT IT READS IS OF BULK AT MOST 1048576: true; the input reads as it did. -/
def fnExactFarthestStateUptoRow : OpenClaim := { program := "ytilepckgcgdjgaa", sum := "09e879d9617b82e38bddfebd9d9de24342caaf2ef280289e5bef1f728865fb29", func := "loop.example/g01208/laws.FnExactFarthestState", spec := "fnExactFarthestState", unfollowed := true, recurses := true, plainKeys := false, apart := false, narrowed := true }
def FnExactFarthestStateUptoSaid : Prop := fnExactFarthestStateUptoRow.holds Try.pinned (OpenSpec.upto fnExactFarthestStateSpec)

/-- 'laws.FnExactLastingStates', WHERE WHAT IT READS IS OF BULK AT MOST 1048576: true; the input reads as it did. -/
def fnExactLastingStatesUptoRow : OpenClaim := { program := "ytilepckgcgdjgaa", sum := "09e879d9617b82e38bddfebd9d9de24342caaf2ef280289e5bef1f728865fb29", func := "loop.example/g01208/laws.FnExactLastingStates", spec := "fnExactLastingStates", plainKeys := false, apart := false, narrowed := true }
def FnExactLastingStatesUptoSaid : Prop := fnExactLastingStatesUptoRow.holds Try.pinned (OpenSpec.upto fnExactLastingStatesSpec)

/-- 'laws.FnExactLeastWater', WHERE WHAT IT READS IS OF BULK AT MOST 1048576: true; the input reads as it did. -/
def fnExactLeastWaterUptoRow : OpenClaim := { program := "ytilepckgcgdjgaa", sum := "09e879d9617b82e38bddfebd9d9de24342caaf2ef280289e5bef1f728865fb29", func := "loop.example/g01208/laws.FnExactLeastWater", spec := "fnExactLeastWater", unfollowed := true, recurses := true, plainKeys := false, apart := false, narrowed := true }
def FnExactLeastWaterUptoSaid : Prop := fnExactLeastWaterUptoRow.holds Try.pinned (OpenSpec.upto fnExactLeastWaterSpec)

/-- 'laws.FnExactWaterPlan', WHERE WHAT IT READS IS OF BULK AT MOST 1048576: true; the input reads as it did. -/
def fnExactWaterPlanUptoRow : OpenClaim := { program := "ytilepckgcgdjgaa", sum := "09e879d9617b82e38bddfebd9d9de24342caaf2ef280289e5bef1f728865fb29", func := "loop.example/g01208/laws.FnExactWaterPlan", spec := "fnExactWaterPlan", unfollowed := true, recurses := true, plainKeys := false, apart := false, narrowed := true }
def FnExactWaterPlanUptoSaid : Prop := fnExactWaterPlanUptoRow.holds Try.pinned (OpenSpec.upto fnExactWaterPlanSpec)

end Rows
end Go.Proofs.Ytilepckgcgdjgaa
