/-
  No cell of these rows narrows 'for every input' (looked for: loops, veiled, ifaces, maps, wideKeys, modest, calm, conditions, laid).
  DERIVED. THE GIVEN ROWS OF THIS SEAT. 11 by the template 'for every input the law returns true; each argument reads behind the call as it read before'; 0 by the template 'total and deterministic' (their statements: YtmbngekgnknjbaaTotals.lean).
  GIVEN WITH THE SEED: the statements are not yours to turn. If you find one false, say at which input.
  Laid BY PROGRAM, IN A SANDBOX (cutbox-rows.mjs): the forced cells as the released guide's own fill.sh prints them over the translation 61b32b72a0e723e8… (all of the seat's roots in one cut). By AI agents, Wed Nov 11 2026. No macro, syntax, notation, axiom, sorry.
-/
import Derived.Test.YtmbngekgnknjbaaChecked
import GoSem.Claim
import GoSem.ClaimJoined
import GoSem.ClaimMapViews
import Derived.JoinedTies
import Derived.KernelRfl
namespace Go.Proofs.Ytmbngekgnknjbaa
/- THE CELL 'sum', in the pinned program and in every row, IS THE sha256 OF THE DUMP (.gsa) THAT YtmbngekgnknjbaaProg.lean LOADS. Nothing in Lean hashes anything: it is a label: what it is worth is what the hold of that sum in a sandbox is worth. -/
noncomputable def Try.pinned : Pinned := { name := "ytmbngekgnknjbaa", sum := "61b32b72a0e723e8e5a6b5c99f540d5db37323ebc24d560d0a5f6793de834a8e", checked := Try.checked }
namespace Rows
def none {H : Type} : Left H := { results := [], args := [] }

/-- 'laws.FnExactTickRow': WHATEVER THE INPUT: true; the input reads as it did. -/
def fnExactTickRowSpec : ChangeSpec := { name := "fnExactTickRow", fn := fun _ => fun
  | [d1, d2] => { results := [.lit (.bool true)], args := [d1, d2] }
  | _ => none }
def fnExactTickRowRow : OpenClaim := { program := "ytmbngekgnknjbaa", sum := "61b32b72a0e723e8e5a6b5c99f540d5db37323ebc24d560d0a5f6793de834a8e", func := "loop.example/g01208/laws.FnExactTickRow", spec := "fnExactTickRow", apart := false }
def FnExactTickRowSaid : Prop := fnExactTickRowRow.holds Try.pinned (OpenSpec.ofChange fnExactTickRowSpec)

/-- ITS FALSE NEIGHBOUR: 'it returns false'. Refute it at one input. -/
def fnExactTickRowWrong : ChangeSpec := { name := "fnExactTickRow", fn := fun _ => fun
  | [d1, d2] => { results := [.lit (.bool false)], args := [d1, d2] }
  | _ => none }
def FnExactTickRowWrongFalsely : Prop := fnExactTickRowRow.holds Try.pinned (OpenSpec.ofChange fnExactTickRowWrong)

/-- 'laws.FnExactRunRow': WHATEVER THE INPUT: true; the input reads as it did. -/
def fnExactRunRowSpec : ChangeSpec := { name := "fnExactRunRow", fn := fun _ => fun
  | [d1, d2] => { results := [.lit (.bool true)], args := [d1, d2] }
  | _ => none }
def fnExactRunRowRow : OpenClaim := { program := "ytmbngekgnknjbaa", sum := "61b32b72a0e723e8e5a6b5c99f540d5db37323ebc24d560d0a5f6793de834a8e", func := "loop.example/g01208/laws.FnExactRunRow", spec := "fnExactRunRow", apart := false }
def FnExactRunRowSaid : Prop := fnExactRunRowRow.holds Try.pinned (OpenSpec.ofChange fnExactRunRowSpec)

/-- ITS FALSE NEIGHBOUR: 'it returns false'. Refute it at one input. -/
def fnExactRunRowWrong : ChangeSpec := { name := "fnExactRunRow", fn := fun _ => fun
  | [d1, d2] => { results := [.lit (.bool false)], args := [d1, d2] }
  | _ => none }
def FnExactRunRowWrongFalsely : Prop := fnExactRunRowRow.holds Try.pinned (OpenSpec.ofChange fnExactRunRowWrong)

/-- 'laws.FnExactRowAfter': WHATEVER THE INPUT: true; the input reads as it did. -/
def fnExactRowAfterSpec : ChangeSpec := { name := "fnExactRowAfter", fn := fun _ => fun
  | [d1, d2] => { results := [.lit (.bool true)], args := [d1, d2] }
  | _ => none }
def fnExactRowAfterRow : OpenClaim := { program := "ytmbngekgnknjbaa", sum := "61b32b72a0e723e8e5a6b5c99f540d5db37323ebc24d560d0a5f6793de834a8e", func := "loop.example/g01208/laws.FnExactRowAfter", spec := "fnExactRowAfter", apart := false }
def FnExactRowAfterSaid : Prop := fnExactRowAfterRow.holds Try.pinned (OpenSpec.ofChange fnExactRowAfterSpec)

/-- ITS FALSE NEIGHBOUR: 'it returns false'. Refute it at one input. -/
def fnExactRowAfterWrong : ChangeSpec := { name := "fnExactRowAfter", fn := fun _ => fun
  | [d1, d2] => { results := [.lit (.bool false)], args := [d1, d2] }
  | _ => none }
def FnExactRowAfterWrongFalsely : Prop := fnExactRowAfterRow.holds Try.pinned (OpenSpec.ofChange fnExactRowAfterWrong)

/-- 'laws.FnExactHeldAlong': WHATEVER THE INPUT: true; the input reads as it did. -/
def fnExactHeldAlongSpec : ChangeSpec := { name := "fnExactHeldAlong", fn := fun _ => fun
  | [d1, d2, d3] => { results := [.lit (.bool true)], args := [d1, d2, d3] }
  | _ => none }
def fnExactHeldAlongRow : OpenClaim := { program := "ytmbngekgnknjbaa", sum := "61b32b72a0e723e8e5a6b5c99f540d5db37323ebc24d560d0a5f6793de834a8e", func := "loop.example/g01208/laws.FnExactHeldAlong", spec := "fnExactHeldAlong", apart := false }
def FnExactHeldAlongSaid : Prop := fnExactHeldAlongRow.holds Try.pinned (OpenSpec.ofChange fnExactHeldAlongSpec)

/-- ITS FALSE NEIGHBOUR: 'it returns false'. Refute it at one input. -/
def fnExactHeldAlongWrong : ChangeSpec := { name := "fnExactHeldAlong", fn := fun _ => fun
  | [d1, d2, d3] => { results := [.lit (.bool false)], args := [d1, d2, d3] }
  | _ => none }
def FnExactHeldAlongWrongFalsely : Prop := fnExactHeldAlongRow.holds Try.pinned (OpenSpec.ofChange fnExactHeldAlongWrong)

/-- 'laws.FnExactSpillsOf': WHATEVER THE INPUT: true; the input reads as it did. -/
def fnExactSpillsOfSpec : ChangeSpec := { name := "fnExactSpillsOf", fn := fun _ => fun
  | [d1, d2] => { results := [.lit (.bool true)], args := [d1, d2] }
  | _ => none }
def fnExactSpillsOfRow : OpenClaim := { program := "ytmbngekgnknjbaa", sum := "61b32b72a0e723e8e5a6b5c99f540d5db37323ebc24d560d0a5f6793de834a8e", func := "loop.example/g01208/laws.FnExactSpillsOf", spec := "fnExactSpillsOf", apart := false }
def FnExactSpillsOfSaid : Prop := fnExactSpillsOfRow.holds Try.pinned (OpenSpec.ofChange fnExactSpillsOfSpec)

/-- ITS FALSE NEIGHBOUR: 'it returns false'. Refute it at one input. -/
def fnExactSpillsOfWrong : ChangeSpec := { name := "fnExactSpillsOf", fn := fun _ => fun
  | [d1, d2] => { results := [.lit (.bool false)], args := [d1, d2] }
  | _ => none }
def FnExactSpillsOfWrongFalsely : Prop := fnExactSpillsOfRow.holds Try.pinned (OpenSpec.ofChange fnExactSpillsOfWrong)

/-- 'laws.FnExactFirstSpill': WHATEVER THE INPUT: true; the input reads as it did. -/
def fnExactFirstSpillSpec : ChangeSpec := { name := "fnExactFirstSpill", fn := fun _ => fun
  | [d1, d2] => { results := [.lit (.bool true)], args := [d1, d2] }
  | _ => none }
def fnExactFirstSpillRow : OpenClaim := { program := "ytmbngekgnknjbaa", sum := "61b32b72a0e723e8e5a6b5c99f540d5db37323ebc24d560d0a5f6793de834a8e", func := "loop.example/g01208/laws.FnExactFirstSpill", spec := "fnExactFirstSpill", apart := false }
def FnExactFirstSpillSaid : Prop := fnExactFirstSpillRow.holds Try.pinned (OpenSpec.ofChange fnExactFirstSpillSpec)

/-- ITS FALSE NEIGHBOUR: 'it returns false'. Refute it at one input. -/
def fnExactFirstSpillWrong : ChangeSpec := { name := "fnExactFirstSpill", fn := fun _ => fun
  | [d1, d2] => { results := [.lit (.bool false)], args := [d1, d2] }
  | _ => none }
def FnExactFirstSpillWrongFalsely : Prop := fnExactFirstSpillRow.holds Try.pinned (OpenSpec.ofChange fnExactFirstSpillWrong)

/-- 'laws.FnExactPeakOut': WHATEVER THE INPUT: true; the input reads as it did. -/
def fnExactPeakOutSpec : ChangeSpec := { name := "fnExactPeakOut", fn := fun _ => fun
  | [d1, d2] => { results := [.lit (.bool true)], args := [d1, d2] }
  | _ => none }
def fnExactPeakOutRow : OpenClaim := { program := "ytmbngekgnknjbaa", sum := "61b32b72a0e723e8e5a6b5c99f540d5db37323ebc24d560d0a5f6793de834a8e", func := "loop.example/g01208/laws.FnExactPeakOut", spec := "fnExactPeakOut", apart := false }
def FnExactPeakOutSaid : Prop := fnExactPeakOutRow.holds Try.pinned (OpenSpec.ofChange fnExactPeakOutSpec)

/-- ITS FALSE NEIGHBOUR: 'it returns false'. Refute it at one input. -/
def fnExactPeakOutWrong : ChangeSpec := { name := "fnExactPeakOut", fn := fun _ => fun
  | [d1, d2] => { results := [.lit (.bool false)], args := [d1, d2] }
  | _ => none }
def FnExactPeakOutWrongFalsely : Prop := fnExactPeakOutRow.holds Try.pinned (OpenSpec.ofChange fnExactPeakOutWrong)

/-- 'laws.FnExactTicksToEmpty': WHATEVER THE INPUT: true; the input reads as it did. -/
def fnExactTicksToEmptySpec : ChangeSpec := { name := "fnExactTicksToEmpty", fn := fun _ => fun
  | [d] => { results := [.lit (.bool true)], args := [d] }
  | _ => none }
def fnExactTicksToEmptyRow : OpenClaim := { program := "ytmbngekgnknjbaa", sum := "61b32b72a0e723e8e5a6b5c99f540d5db37323ebc24d560d0a5f6793de834a8e", func := "loop.example/g01208/laws.FnExactTicksToEmpty", spec := "fnExactTicksToEmpty", apart := false }
def FnExactTicksToEmptySaid : Prop := fnExactTicksToEmptyRow.holds Try.pinned (OpenSpec.ofChange fnExactTicksToEmptySpec)

/-- ITS FALSE NEIGHBOUR: 'it returns false'. Refute it at one input. -/
def fnExactTicksToEmptyWrong : ChangeSpec := { name := "fnExactTicksToEmpty", fn := fun _ => fun
  | [d] => { results := [.lit (.bool false)], args := [d] }
  | _ => none }
def FnExactTicksToEmptyWrongFalsely : Prop := fnExactTicksToEmptyRow.holds Try.pinned (OpenSpec.ofChange fnExactTicksToEmptyWrong)

/-- 'laws.FnExactSteadyHeld': WHATEVER THE INPUT: true; the input reads as it did. -/
def fnExactSteadyHeldSpec : ChangeSpec := { name := "fnExactSteadyHeld", fn := fun _ => fun
  | [d1, d2] => { results := [.lit (.bool true)], args := [d1, d2] }
  | _ => none }
def fnExactSteadyHeldRow : OpenClaim := { program := "ytmbngekgnknjbaa", sum := "61b32b72a0e723e8e5a6b5c99f540d5db37323ebc24d560d0a5f6793de834a8e", func := "loop.example/g01208/laws.FnExactSteadyHeld", spec := "fnExactSteadyHeld", apart := false }
def FnExactSteadyHeldSaid : Prop := fnExactSteadyHeldRow.holds Try.pinned (OpenSpec.ofChange fnExactSteadyHeldSpec)

/-- ITS FALSE NEIGHBOUR: 'it returns false'. Refute it at one input. -/
def fnExactSteadyHeldWrong : ChangeSpec := { name := "fnExactSteadyHeld", fn := fun _ => fun
  | [d1, d2] => { results := [.lit (.bool false)], args := [d1, d2] }
  | _ => none }
def FnExactSteadyHeldWrongFalsely : Prop := fnExactSteadyHeldRow.holds Try.pinned (OpenSpec.ofChange fnExactSteadyHeldWrong)

/-- 'laws.FnExactLeastSize': WHATEVER THE INPUT: true; the input reads as it did. -/
def fnExactLeastSizeSpec : ChangeSpec := { name := "fnExactLeastSize", fn := fun _ => fun
  | [d1, d2, d3] => { results := [.lit (.bool true)], args := [d1, d2, d3] }
  | _ => none }
def fnExactLeastSizeRow : OpenClaim := { program := "ytmbngekgnknjbaa", sum := "61b32b72a0e723e8e5a6b5c99f540d5db37323ebc24d560d0a5f6793de834a8e", func := "loop.example/g01208/laws.FnExactLeastSize", spec := "fnExactLeastSize", apart := false }
def FnExactLeastSizeSaid : Prop := fnExactLeastSizeRow.holds Try.pinned (OpenSpec.ofChange fnExactLeastSizeSpec)

/-- ITS FALSE NEIGHBOUR: 'it returns false'. Refute it at one input. -/
def fnExactLeastSizeWrong : ChangeSpec := { name := "fnExactLeastSize", fn := fun _ => fun
  | [d1, d2, d3] => { results := [.lit (.bool false)], args := [d1, d2, d3] }
  | _ => none }
def FnExactLeastSizeWrongFalsely : Prop := fnExactLeastSizeRow.holds Try.pinned (OpenSpec.ofChange fnExactLeastSizeWrong)

/-- 'laws.FnExactIsHeldBack': WHATEVER THE INPUT: true; the input reads as it did. -/
def fnExactIsHeldBackSpec : ChangeSpec := { name := "fnExactIsHeldBack", fn := fun _ => fun
  | [d1, d2] => { results := [.lit (.bool true)], args := [d1, d2] }
  | _ => none }
def fnExactIsHeldBackRow : OpenClaim := { program := "ytmbngekgnknjbaa", sum := "61b32b72a0e723e8e5a6b5c99f540d5db37323ebc24d560d0a5f6793de834a8e", func := "loop.example/g01208/laws.FnExactIsHeldBack", spec := "fnExactIsHeldBack", apart := false }
def FnExactIsHeldBackSaid : Prop := fnExactIsHeldBackRow.holds Try.pinned (OpenSpec.ofChange fnExactIsHeldBackSpec)

/-- ITS FALSE NEIGHBOUR: 'it returns false'. Refute it at one input. -/
def fnExactIsHeldBackWrong : ChangeSpec := { name := "fnExactIsHeldBack", fn := fun _ => fun
  | [d1, d2] => { results := [.lit (.bool false)], args := [d1, d2] }
  | _ => none }
def FnExactIsHeldBackWrongFalsely : Prop := fnExactIsHeldBackRow.holds Try.pinned (OpenSpec.ofChange fnExactIsHeldBackWrong)

/- THE SECOND FORM. 'bulk': how many values and letters a reading holds, each counted each time it is reached (what is shared counts as often as it is met; a slice's spare places count too). A statement '..UptoSaid' is the law's where the arguments, and the package variables that the reading takes, are together of bulk at most 1048576: NARROWER than '..Said'. Prove '..Said' where nothing that the law and all that it calls make is longer than what came in: it says more and counts as full. Else prove '..UptoSaid'. A law counts once. -/
mutual
def uptoBulk {H : Type} : DataW H → Nat
  | .lit (.string bytes) => bytes.length + 1
  | .lit _ => 1
  | .nil => 1
  | .ptr d => uptoBulk d + 1
  | .slice elems spare => uptoBulkAll elems + uptoBulkAll spare + 1
  | .agg parts => uptoBulkAll parts + 1
  | .iface _ d => uptoBulk d + 1
  | .map entries => uptoBulkEntries entries + 1
  | .held _ => 1
def uptoBulkAll {H : Type} : List (DataW H) → Nat
  | [] => 0
  | d :: r => uptoBulk d + uptoBulkAll r
def uptoBulkEntries {H : Type} : List (Lit × DataW H) → Nat
  | [] => 0
  | x :: r => uptoBulkEntry x + uptoBulkEntries r
def uptoBulkEntry {H : Type} : Lit × DataW H → Nat
  | (.string bytes, d) => bytes.length + uptoBulk d + 1
  | (_, d) => uptoBulk d + 1
 end
def uptoSmall : (H : Type) → List (DataW H) → Bool := fun _ ds => decide (uptoBulkAll ds ≤ 1048576)
def OpenSpec.upto (s : _root_.Go.ChangeSpec) : _root_.Go.OpenSpec := { _root_.Go.OpenSpec.ofChange s with cond := some uptoSmall }

/-- 'laws.FnExactTickRow', WHERE WHAT IT READS IS OF BULK AT MOST 1048576: true; the input reads as it did. -/
def fnExactTickRowUptoRow : OpenClaim := { program := "ytmbngekgnknjbaa", sum := "61b32b72a0e723e8e5a6b5c99f540d5db37323ebc24d560d0a5f6793de834a8e", func := "loop.example/g01208/laws.FnExactTickRow", spec := "fnExactTickRow", apart := false, narrowed := true }
def FnExactTickRowUptoSaid : Prop := fnExactTickRowUptoRow.holds Try.pinned (OpenSpec.upto fnExactTickRowSpec)

/-- 'laws.FnExactRunRow', WHERE WHAT IT READS IS OF BULK AT MOST 1048576: true; the input reads as it did. -/
def fnExactRunRowUptoRow : OpenClaim := { program := "ytmbngekgnknjbaa", sum := "61b32b72a0e723e8e5a6b5c99f540d5db37323ebc24d560d0a5f6793de834a8e", func := "loop.example/g01208/laws.FnExactRunRow", spec := "fnExactRunRow", apart := false, narrowed := true }
def FnExactRunRowUptoSaid : Prop := fnExactRunRowUptoRow.holds Try.pinned (OpenSpec.upto fnExactRunRowSpec)

/-- 'laws.FnExactRowAfter', WHERE WHAT IT READS IS OF BULK AT MOST 1048576: true; the input reads as it did. -/
def fnExactRowAfterUptoRow : OpenClaim := { program := "ytmbngekgnknjbaa", sum := "61b32b72a0e723e8e5a6b5c99f540d5db37323ebc24d560d0a5f6793de834a8e", func := "loop.example/g01208/laws.FnExactRowAfter", spec := "fnExactRowAfter", apart := false, narrowed := true }
def FnExactRowAfterUptoSaid : Prop := fnExactRowAfterUptoRow.holds Try.pinned (OpenSpec.upto fnExactRowAfterSpec)

/-- 'laws.FnExactHeldAlong', WHERE WHAT IT READS IS OF BULK AT MOST 1048576: true; the input reads as it did. -/
def fnExactHeldAlongUptoRow : OpenClaim := { program := "ytmbngekgnknjbaa", sum := "61b32b72a0e723e8e5a6b5c99f540d5db37323ebc24d560d0a5f6793de834a8e", func := "loop.example/g01208/laws.FnExactHeldAlong", spec := "fnExactHeldAlong", apart := false, narrowed := true }
def FnExactHeldAlongUptoSaid : Prop := fnExactHeldAlongUptoRow.holds Try.pinned (OpenSpec.upto fnExactHeldAlongSpec)

/-- 'laws.FnExactSpillsOf', WHERE WHAT IT READS IS OF BULK AT MOST 1048576: true; the input reads as it did. -/
def fnExactSpillsOfUptoRow : OpenClaim := { program := "ytmbngekgnknjbaa", sum := "61b32b72a0e723e8e5a6b5c99f540d5db37323ebc24d560d0a5f6793de834a8e", func := "loop.example/g01208/laws.FnExactSpillsOf", spec := "fnExactSpillsOf", apart := false, narrowed := true }
def FnExactSpillsOfUptoSaid : Prop := fnExactSpillsOfUptoRow.holds Try.pinned (OpenSpec.upto fnExactSpillsOfSpec)

/-- 'laws.FnExactFirstSpill', WHERE WHAT IT READS IS OF BULK AT MOST 1048576: true; the input reads as it did. -/
def fnExactFirstSpillUptoRow : OpenClaim := { program := "ytmbngekgnknjbaa", sum := "61b32b72a0e723e8e5a6b5c99f540d5db37323ebc24d560d0a5f6793de834a8e", func := "loop.example/g01208/laws.FnExactFirstSpill", spec := "fnExactFirstSpill", apart := false, narrowed := true }
def FnExactFirstSpillUptoSaid : Prop := fnExactFirstSpillUptoRow.holds Try.pinned (OpenSpec.upto fnExactFirstSpillSpec)

/-- 'laws.FnExactPeakOut', WHERE WHAT IT READS IS OF BULK AT MOST 1048576: true; the input reads as it did. -/
def fnExactPeakOutUptoRow : OpenClaim := { program := "ytmbngekgnknjbaa", sum := "61b32b72a0e723e8e5a6b5c99f540d5db37323ebc24d560d0a5f6793de834a8e", func := "loop.example/g01208/laws.FnExactPeakOut", spec := "fnExactPeakOut", apart := false, narrowed := true }
def FnExactPeakOutUptoSaid : Prop := fnExactPeakOutUptoRow.holds Try.pinned (OpenSpec.upto fnExactPeakOutSpec)

/-- 'laws.FnExactTicksToEmpty', WHERE WHAT IT READS IS OF BULK AT MOST 1048576: true; the input reads as it did. -/
def fnExactTicksToEmptyUptoRow : OpenClaim := { program := "ytmbngekgnknjbaa", sum := "61b32b72a0e723e8e5a6b5c99f540d5db37323ebc24d560d0a5f6793de834a8e", func := "loop.example/g01208/laws.FnExactTicksToEmpty", spec := "fnExactTicksToEmpty", apart := false, narrowed := true }
def FnExactTicksToEmptyUptoSaid : Prop := fnExactTicksToEmptyUptoRow.holds Try.pinned (OpenSpec.upto fnExactTicksToEmptySpec)

/-- 'laws.FnExactSteadyHeld', WHERE WHAT IT READS IS OF BULK AT MOST 1048576: true; the input reads as it did. -/
def fnExactSteadyHeldUptoRow : OpenClaim := { program := "ytmbngekgnknjbaa", sum := "61b32b72a0e723e8e5a6b5c99f540d5db37323ebc24d560d0a5f6793de834a8e", func := "loop.example/g01208/laws.FnExactSteadyHeld", spec := "fnExactSteadyHeld", apart := false, narrowed := true }
def FnExactSteadyHeldUptoSaid : Prop := fnExactSteadyHeldUptoRow.holds Try.pinned (OpenSpec.upto fnExactSteadyHeldSpec)

/-- 'laws.FnExactLeastSize', WHERE WHAT IT READS IS OF BULK AT MOST 1048576: true; the input reads as it did. -/
def fnExactLeastSizeUptoRow : OpenClaim := { program := "ytmbngekgnknjbaa", sum := "61b32b72a0e723e8e5a6b5c99f540d5db37323ebc24d560d0a5f6793de834a8e", func := "loop.example/g01208/laws.FnExactLeastSize", spec := "fnExactLeastSize", apart := false, narrowed := true }
def FnExactLeastSizeUptoSaid : Prop := fnExactLeastSizeUptoRow.holds Try.pinned (OpenSpec.upto fnExactLeastSizeSpec)

/-- 'laws.FnExactIsHeldBack', WHERE WHAT IT READS IS OF BULK AT MOST 1048576: true; the input reads as it did. -/
def fnExactIsHeldBackUptoRow : OpenClaim := { program := "ytmbngekgnknjbaa", sum := "61b32b72a0e723e8e5a6b5c99f540d5db37323ebc24d560d0a5f6793de834a8e", func := "loop.example/g01208/laws.FnExactIsHeldBack", spec := "fnExactIsHeldBack", apart := false, narrowed := true }
def FnExactIsHeldBackUptoSaid : Prop := fnExactIsHeldBackUptoRow.holds Try.pinned (OpenSpec.upto fnExactIsHeldBackSpec)

end Rows
end Go.Proofs.Ytmbngekgnknjbaa
