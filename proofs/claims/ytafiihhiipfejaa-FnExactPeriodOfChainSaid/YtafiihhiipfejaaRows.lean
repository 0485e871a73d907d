/-
  No cell of these rows narrows 'for every input' (looked for: loops, veiled, ifaces, maps, wideKeys, modest, calm, conditions, laid).
  DERIVED. THE GIVEN ROWS OF THIS SEAT. 6 by the template 'for every input the law returns true; each argument reads behind the call as it read before'; 0 by the template 'total and deterministic' (their statements: YtafiihhiipfejaaTotals.lean).
  GIVEN WITH THE SEED: the statements are not yours to turn. If you find one false, say at which input.
  Laid BY PROGRAM, IN A SANDBOX (cutbox-rows.mjs): the forced cells as the released guide's own fill.sh prints them over the translation fa583f2aadd7020f… (all of the seat's roots in one cut). By AI agents, Wed Nov 11 2026. No macro, syntax, notation, axiom, sorry.
-/
import Derived.Test.YtafiihhiipfejaaChecked
import GoSem.Claim
import GoSem.ClaimJoined
import GoSem.ClaimMapViews
import Derived.JoinedTies
import Derived.KernelRfl
namespace Go.Proofs.Ytafiihhiipfejaa
/- THE CELL 'sum', in the pinned program and in every row, IS THE sha256 OF THE DUMP (.gsa) THAT YtafiihhiipfejaaProg.lean LOADS. Nothing in Lean hashes anything: it is a label: what it is worth is what the hold of that sum in a sandbox is worth. -/
noncomputable def Try.pinned : Pinned := { name := "ytafiihhiipfejaa", sum := "fa583f2aadd7020f6fafaa734c481ba6eece5f2501d51e9a6e9b37537a4f45e1", checked := Try.checked }
namespace Rows
def none {H : Type} : Left H := { results := [], args := [] }

/-- 'laws.FnExactPeriodOfSiphon': WHATEVER THE INPUT: true; the input reads as it did. -/
def fnExactPeriodOfSiphonSpec : ChangeSpec := { name := "fnExactPeriodOfSiphon", fn := fun _ => fun
  | [d1, d2] => { results := [.lit (.bool true)], args := [d1, d2] }
  | _ => none }
def fnExactPeriodOfSiphonRow : OpenClaim := { program := "ytafiihhiipfejaa", sum := "fa583f2aadd7020f6fafaa734c481ba6eece5f2501d51e9a6e9b37537a4f45e1", func := "loop.example/g01208/laws.FnExactPeriodOfSiphon", spec := "fnExactPeriodOfSiphon", plainKeys := false, apart := false }
def FnExactPeriodOfSiphonSaid : Prop := fnExactPeriodOfSiphonRow.holds Try.pinned (OpenSpec.ofChange fnExactPeriodOfSiphonSpec)

/-- ITS FALSE NEIGHBOUR: 'it returns false'. Refute it at one input. -/
def fnExactPeriodOfSiphonWrong : ChangeSpec := { name := "fnExactPeriodOfSiphon", fn := fun _ => fun
  | [d1, d2] => { results := [.lit (.bool false)], args := [d1, d2] }
  | _ => none }
def FnExactPeriodOfSiphonWrongFalsely : Prop := fnExactPeriodOfSiphonRow.holds Try.pinned (OpenSpec.ofChange fnExactPeriodOfSiphonWrong)

/-- 'laws.FnExactPulseOf': WHATEVER THE INPUT: true; the input reads as it did. -/
def fnExactPulseOfSpec : ChangeSpec := { name := "fnExactPulseOf", fn := fun _ => fun
  | [d1, d2] => { results := [.lit (.bool true)], args := [d1, d2] }
  | _ => none }
def fnExactPulseOfRow : OpenClaim := { program := "ytafiihhiipfejaa", sum := "fa583f2aadd7020f6fafaa734c481ba6eece5f2501d51e9a6e9b37537a4f45e1", func := "loop.example/g01208/laws.FnExactPulseOf", spec := "fnExactPulseOf", plainKeys := false, apart := false }
def FnExactPulseOfSaid : Prop := fnExactPulseOfRow.holds Try.pinned (OpenSpec.ofChange fnExactPulseOfSpec)

/-- ITS FALSE NEIGHBOUR: 'it returns false'. Refute it at one input. -/
def fnExactPulseOfWrong : ChangeSpec := { name := "fnExactPulseOf", fn := fun _ => fun
  | [d1, d2] => { results := [.lit (.bool false)], args := [d1, d2] }
  | _ => none }
def FnExactPulseOfWrongFalsely : Prop := fnExactPulseOfRow.holds Try.pinned (OpenSpec.ofChange fnExactPulseOfWrong)

/-- 'laws.FnExactSpiltInPeriod': WHATEVER THE INPUT: true; the input reads as it did. -/
def fnExactSpiltInPeriodSpec : ChangeSpec := { name := "fnExactSpiltInPeriod", fn := fun _ => fun
  | [d1, d2] => { results := [.lit (.bool true)], args := [d1, d2] }
  | _ => none }
def fnExactSpiltInPeriodRow : OpenClaim := { program := "ytafiihhiipfejaa", sum := "fa583f2aadd7020f6fafaa734c481ba6eece5f2501d51e9a6e9b37537a4f45e1", func := "loop.example/g01208/laws.FnExactSpiltInPeriod", spec := "fnExactSpiltInPeriod", plainKeys := false, apart := false }
def FnExactSpiltInPeriodSaid : Prop := fnExactSpiltInPeriodRow.holds Try.pinned (OpenSpec.ofChange fnExactSpiltInPeriodSpec)

/-- ITS FALSE NEIGHBOUR: 'it returns false'. Refute it at one input. -/
def fnExactSpiltInPeriodWrong : ChangeSpec := { name := "fnExactSpiltInPeriod", fn := fun _ => fun
  | [d1, d2] => { results := [.lit (.bool false)], args := [d1, d2] }
  | _ => none }
def FnExactSpiltInPeriodWrongFalsely : Prop := fnExactSpiltInPeriodRow.holds Try.pinned (OpenSpec.ofChange fnExactSpiltInPeriodWrong)

/-- 'laws.FnExactNeverStops': WHATEVER THE INPUT: true; the input reads as it did. -/
def fnExactNeverStopsSpec : ChangeSpec := { name := "fnExactNeverStops", fn := fun _ => fun
  | [d1, d2] => { results := [.lit (.bool true)], args := [d1, d2] }
  | _ => none }
def fnExactNeverStopsRow : OpenClaim := { program := "ytafiihhiipfejaa", sum := "fa583f2aadd7020f6fafaa734c481ba6eece5f2501d51e9a6e9b37537a4f45e1", func := "loop.example/g01208/laws.FnExactNeverStops", spec := "fnExactNeverStops", plainKeys := false, apart := false }
def FnExactNeverStopsSaid : Prop := fnExactNeverStopsRow.holds Try.pinned (OpenSpec.ofChange fnExactNeverStopsSpec)

/-- ITS FALSE NEIGHBOUR: 'it returns false'. Refute it at one input. -/
def fnExactNeverStopsWrong : ChangeSpec := { name := "fnExactNeverStops", fn := fun _ => fun
  | [d1, d2] => { results := [.lit (.bool false)], args := [d1, d2] }
  | _ => none }
def FnExactNeverStopsWrongFalsely : Prop := fnExactNeverStopsRow.holds Try.pinned (OpenSpec.ofChange fnExactNeverStopsWrong)

/-- 'laws.FnExactChainOuts': WHATEVER THE INPUT: true; the input reads as it did. -/
def fnExactChainOutsSpec : ChangeSpec := { name := "fnExactChainOuts", fn := fun _ => fun
  | [d1, d2] => { results := [.lit (.bool true)], args := [d1, d2] }
  | _ => none }
def fnExactChainOutsRow : OpenClaim := { program := "ytafiihhiipfejaa", sum := "fa583f2aadd7020f6fafaa734c481ba6eece5f2501d51e9a6e9b37537a4f45e1", func := "loop.example/g01208/laws.FnExactChainOuts", spec := "fnExactChainOuts", plainKeys := false, apart := false }
def FnExactChainOutsSaid : Prop := fnExactChainOutsRow.holds Try.pinned (OpenSpec.ofChange fnExactChainOutsSpec)

/-- ITS FALSE NEIGHBOUR: 'it returns false'. Refute it at one input. -/
def fnExactChainOutsWrong : ChangeSpec := { name := "fnExactChainOuts", fn := fun _ => fun
  | [d1, d2] => { results := [.lit (.bool false)], args := [d1, d2] }
  | _ => none }
def FnExactChainOutsWrongFalsely : Prop := fnExactChainOutsRow.holds Try.pinned (OpenSpec.ofChange fnExactChainOutsWrong)

/-- 'laws.FnExactPeriodOfChain': WHATEVER THE INPUT: true; the input reads as it did. -/
def fnExactPeriodOfChainSpec : ChangeSpec := { name := "fnExactPeriodOfChain", fn := fun _ => fun
  | [d1, d2] => { results := [.lit (.bool true)], args := [d1, d2] }
  | _ => none }
def fnExactPeriodOfChainRow : OpenClaim := { program := "ytafiihhiipfejaa", sum := "fa583f2aadd7020f6fafaa734c481ba6eece5f2501d51e9a6e9b37537a4f45e1", func := "loop.example/g01208/laws.FnExactPeriodOfChain", spec := "fnExactPeriodOfChain", plainKeys := false, apart := false }
def FnExactPeriodOfChainSaid : Prop := fnExactPeriodOfChainRow.holds Try.pinned (OpenSpec.ofChange fnExactPeriodOfChainSpec)

/-- ITS FALSE NEIGHBOUR: 'it returns false'. Refute it at one input. -/
def fnExactPeriodOfChainWrong : ChangeSpec := { name := "fnExactPeriodOfChain", fn := fun _ => fun
  | [d1, d2] => { results := [.lit (.bool false)], args := [d1, d2] }
  | _ => none }
def FnExactPeriodOfChainWrongFalsely : Prop := fnExactPeriodOfChainRow.holds Try.pinned (OpenSpec.ofChange fnExactPeriodOfChainWrong)

/- THE SECOND FORM. 'bulk': how many values and letters a reading holds, each counted each time it is reached (what is shared counts as often as it is met; a slice's spare places count too). A statement '..UptoSaid' is the law's where the arguments, and the package variables that the reading takes, are together of bulk at most 1048576: NARROWER than '..Said'. Prove '..Said' where nothing that the law and all that it calls make is longer than what came in: it says more and counts as full. Else prove '..UptoSaid'. A law counts once. -/
mutual
def uptoBulk {H : Type} : DataW H → Nat
  | .lit (.string bytes) => bytes.length + 1
  | .lit _ => 1
  | .nil => 1
  | .ptr d => uptoBulk d + 1
  | .slice elems spare => uptoBulkAll elems + uptoBulkAll spare + 1
  | .agg parts => uptoBulkAll parts + 1
  | .iface _ d => uptoBulk d + 1
  | .map entries => uptoBulkEntries entries + 1
  | .held _ => 1
def uptoBulkAll {H : Type} : List (DataW H) → Nat
  | [] => 0
  | d :: r => uptoBulk d + uptoBulkAll r
def uptoBulkEntries {H : Type} : List (Lit × DataW H) → Nat
  | [] => 0
  | x :: r => uptoBulkEntry x + uptoBulkEntries r
def uptoBulkEntry {H : Type} : Lit × DataW H → Nat
  | (.string bytes, d) => bytes.length + uptoBulk d + 1
  | (_, d) => uptoBulk d + 1
 end
def uptoSmall : (H : Type) → List (DataW H) → Bool := fun _ ds => decide (uptoBulkAll ds ≤ 1048576)
def OpenSpec.upto (s : _root_.Go.ChangeSpec) : _root_.Go.OpenSpec := { _root_.Go.OpenSpec.ofChange s with cond := some uptoSmall }

/-- 'laws.FnExactPeriodOfSiphon', WHERE WHAT IT READS IS OF BULK AT MOST 1048576: true; the input reads as it did. -/
def fnExactPeriodOfSiphonUptoRow : OpenClaim := { program := "ytafiihhiipfejaa", sum := "fa583f2aadd7020f6fafaa734c481ba6eece5f2501d51e9a6e9b37537a4f45e1", func := "loop.example/g01208/laws.FnExactPeriodOfSiphon", spec := "fnExactPeriodOfSiphon", plainKeys := false, apart := false, narrowed := true }
def FnExactPeriodOfSiphonUptoSaid : Prop := fnExactPeriodOfSiphonUptoRow.holds Try.pinned (OpenSpec.upto fnExactPeriodOfSiphonSpec)

/-- 'laws.FnExactPulseOf', WHERE WHAT IT READS IS OF BULK AT MOST 1048576: true; the input reads as it did. -/
def fnExactPulseOfUptoRow : OpenClaim := { program := "ytafiihhiipfejaa", sum := "fa583f2aadd7020f6fafaa734c481ba6eece5f2501d51e9a6e9b37537a4f45e1", func := "loop.example/g01208/laws.FnExactPulseOf", spec := "fnExactPulseOf", plainKeys := false, apart := false, narrowed := true }
def FnExactPulseOfUptoSaid : Prop := fnExactPulseOfUptoRow.holds Try.pinned (OpenSpec.upto fnExactPulseOfSpec)

/-- 'laws.FnExactSpiltInPeriod', WHERE WHAT IT READS IS OF BULK AT MOST 1048576: true; the input reads as it did. -/
def fnExactSpiltInPeriodUptoRow : OpenClaim := { program := "ytafiihhiipfejaa", sum := "fa583f2aadd7020f6fafaa734c481ba6eece5f2501d51e9a6e9b37537a4f45e1", func := "loop.example/g01208/laws.FnExactSpiltInPeriod", spec := "fnExactSpiltInPeriod", plainKeys := false, apart := false, narrowed := true }
def FnExactSpiltInPeriodUptoSaid : Prop := fnExactSpiltInPeriodUptoRow.holds Try.pinned (OpenSpec.upto fnExactSpiltInPeriodSpec)

/-- 'laws.FnExactNeverStops', WHERE WHAT IT READS IS OF BULK AT MOST 1048576: true; the input reads as it did. -/
def fnExactNeverStopsUptoRow : OpenClaim := { program := "ytafiihhiipfejaa", sum := "fa583f2aadd7020f6fafaa734c481ba6eece5f2501d51e9a6e9b37537a4f45e1", func := "loop.example/g01208/laws.FnExactNeverStops", spec := "fnExactNeverStops", plainKeys := false, apart := false, narrowed := true }
def FnExactNeverStopsUptoSaid : Prop := fnExactNeverStopsUptoRow.holds Try.pinned (OpenSpec.upto fnExactNeverStopsSpec)

/-- 'laws.FnExactChainOuts', WHERE WHAT IT READS IS OF BULK AT MOST 1048576: true; the input reads as it did. -/
def fnExactChainOutsUptoRow : OpenClaim := { program := "ytafiihhiipfejaa", sum := "fa583f2aadd7020f6fafaa734c481ba6eece5f2501d51e9a6e9b37537a4f45e1", func := "loop.example/g01208/laws.FnExactChainOuts", spec := "fnExactChainOuts", plainKeys := false, apart := false, narrowed := true }
def FnExactChainOutsUptoSaid : Prop := fnExactChainOutsUptoRow.holds Try.pinned (OpenSpec.upto fnExactChainOutsSpec)

/-- 'laws.FnExactPeriodOfChain', WHERE WHAT IT READS IS OF BULK AT MOST 1048576: true; the input reads as it did. -/
def fnExactPeriodOfChainUptoRow : OpenClaim := { program := "ytafiihhiipfejaa", sum := "fa583f2aadd7020f6fafaa734c481ba6eece5f2501d51e9a6e9b37537a4f45e1", func := "loop.example/g01208/laws.FnExactPeriodOfChain", spec := "fnExactPeriodOfChain", plainKeys := false, apart := false, narrowed := true }
def FnExactPeriodOfChainUptoSaid : Prop := fnExactPeriodOfChainUptoRow.holds Try.pinned (OpenSpec.upto fnExactPeriodOfChainSpec)

end Rows
end Go.Proofs.Ytafiihhiipfejaa
