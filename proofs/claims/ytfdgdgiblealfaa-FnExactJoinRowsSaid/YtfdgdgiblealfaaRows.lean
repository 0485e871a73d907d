/-
  No cell of these rows narrows 'for every input' (looked for: loops, veiled, ifaces, maps, wideKeys, modest, calm, conditions, laid).
  DERIVED. THE GIVEN ROWS OF THIS SEAT. 5 by the template 'for every input the law returns true; each argument reads behind the call as it read before'; 0 by the template 'total and deterministic' (their statements: YtfdgdgiblealfaaTotals.lean).
  GIVEN WITH THE SEED: the statements are not yours to turn. If you find one false, say at which input.
  Laid BY PROGRAM, IN A SANDBOX (cutbox-rows.mjs): the forced cells as the released guide's own fill.sh prints them over the translation 46012e808968e5bc… (all of the seat's roots in one cut). By AI agents, Wed Nov 11 2026. No macro, syntax, notation, axiom, sorry.
-/
import Derived.Test.YtfdgdgiblealfaaChecked
import GoSem.Claim
import GoSem.ClaimJoined
import GoSem.ClaimMapViews
import Derived.JoinedTies
import Derived.KernelRfl
namespace Go.Proofs.Ytfdgdgiblealfaa
/- THE CELL 'sum', in the pinned program and in every row, IS THE sha256 OF THE DUMP (.gsa) THAT YtfdgdgiblealfaaProg.lean LOADS. Nothing in Lean hashes anything: it is a label: what it is worth is what the hold of that sum in a sandbox is worth. -/
noncomputable def Try.pinned : Pinned := { name := "ytfdgdgiblealfaa", sum := "46012e808968e5bc82765c2e6f06439f56e0b327be29f4b3aac14d537a996821", checked := Try.checked }
namespace Rows
def none {H : Type} : Left H := { results := [], args := [] }

/-- 'laws.FnExactIsRow': WHATEVER THE INPUT: true; the input reads as it did. -/
def fnExactIsRowSpec : ChangeSpec := { name := "fnExactIsRow", fn := fun _ => fun
  | [d] => { results := [.lit (.bool true)], args := [d] }
  | _ => none }
def fnExactIsRowRow : OpenClaim := { program := "ytfdgdgiblealfaa", sum := "46012e808968e5bc82765c2e6f06439f56e0b327be29f4b3aac14d537a996821", func := "loop.example/g01208/laws.FnExactIsRow", spec := "fnExactIsRow", apart := false }
def FnExactIsRowSaid : Prop := fnExactIsRowRow.holds Try.pinned (OpenSpec.ofChange fnExactIsRowSpec)

/-- ITS FALSE NEIGHBOUR: 'it returns false'. Refute it at one input. -/
def fnExactIsRowWrong : ChangeSpec := { name := "fnExactIsRow", fn := fun _ => fun
  | [d] => { results := [.lit (.bool false)], args := [d] }
  | _ => none }
def FnExactIsRowWrongFalsely : Prop := fnExactIsRowRow.holds Try.pinned (OpenSpec.ofChange fnExactIsRowWrong)

/-- 'laws.FnExactAreFlows': WHATEVER THE INPUT: true; the input reads as it did. -/
def fnExactAreFlowsSpec : ChangeSpec := { name := "fnExactAreFlows", fn := fun _ => fun
  | [d] => { results := [.lit (.bool true)], args := [d] }
  | _ => none }
def fnExactAreFlowsRow : OpenClaim := { program := "ytfdgdgiblealfaa", sum := "46012e808968e5bc82765c2e6f06439f56e0b327be29f4b3aac14d537a996821", func := "loop.example/g01208/laws.FnExactAreFlows", spec := "fnExactAreFlows", apart := false }
def FnExactAreFlowsSaid : Prop := fnExactAreFlowsRow.holds Try.pinned (OpenSpec.ofChange fnExactAreFlowsSpec)

/-- ITS FALSE NEIGHBOUR: 'it returns false'. Refute it at one input. -/
def fnExactAreFlowsWrong : ChangeSpec := { name := "fnExactAreFlows", fn := fun _ => fun
  | [d] => { results := [.lit (.bool false)], args := [d] }
  | _ => none }
def FnExactAreFlowsWrongFalsely : Prop := fnExactAreFlowsRow.holds Try.pinned (OpenSpec.ofChange fnExactAreFlowsWrong)

/-- 'laws.FnExactHeldInRow': WHATEVER THE INPUT: true; the input reads as it did. -/
def fnExactHeldInRowSpec : ChangeSpec := { name := "fnExactHeldInRow", fn := fun _ => fun
  | [d] => { results := [.lit (.bool true)], args := [d] }
  | _ => none }
def fnExactHeldInRowRow : OpenClaim := { program := "ytfdgdgiblealfaa", sum := "46012e808968e5bc82765c2e6f06439f56e0b327be29f4b3aac14d537a996821", func := "loop.example/g01208/laws.FnExactHeldInRow", spec := "fnExactHeldInRow", apart := false }
def FnExactHeldInRowSaid : Prop := fnExactHeldInRowRow.holds Try.pinned (OpenSpec.ofChange fnExactHeldInRowSpec)

/-- ITS FALSE NEIGHBOUR: 'it returns false'. Refute it at one input. -/
def fnExactHeldInRowWrong : ChangeSpec := { name := "fnExactHeldInRow", fn := fun _ => fun
  | [d] => { results := [.lit (.bool false)], args := [d] }
  | _ => none }
def FnExactHeldInRowWrongFalsely : Prop := fnExactHeldInRowRow.holds Try.pinned (OpenSpec.ofChange fnExactHeldInRowWrong)

/-- 'laws.FnExactJoinRows': WHATEVER THE INPUT: true; the input reads as it did. -/
def fnExactJoinRowsSpec : ChangeSpec := { name := "fnExactJoinRows", fn := fun _ => fun
  | [d1, d2] => { results := [.lit (.bool true)], args := [d1, d2] }
  | _ => none }
def fnExactJoinRowsRow : OpenClaim := { program := "ytfdgdgiblealfaa", sum := "46012e808968e5bc82765c2e6f06439f56e0b327be29f4b3aac14d537a996821", func := "loop.example/g01208/laws.FnExactJoinRows", spec := "fnExactJoinRows", apart := false }
def FnExactJoinRowsSaid : Prop := fnExactJoinRowsRow.holds Try.pinned (OpenSpec.ofChange fnExactJoinRowsSpec)

/-- ITS FALSE NEIGHBOUR: 'it returns false'. Refute it at one input. -/
def fnExactJoinRowsWrong : ChangeSpec := { name := "fnExactJoinRows", fn := fun _ => fun
  | [d1, d2] => { results := [.lit (.bool false)], args := [d1, d2] }
  | _ => none }
def FnExactJoinRowsWrongFalsely : Prop := fnExactJoinRowsRow.holds Try.pinned (OpenSpec.ofChange fnExactJoinRowsWrong)

/-- 'laws.FnExactRunningTotals': WHATEVER THE INPUT: true; the input reads as it did. -/
def fnExactRunningTotalsSpec : ChangeSpec := { name := "fnExactRunningTotals", fn := fun _ => fun
  | [d] => { results := [.lit (.bool true)], args := [d] }
  | _ => none }
def fnExactRunningTotalsRow : OpenClaim := { program := "ytfdgdgiblealfaa", sum := "46012e808968e5bc82765c2e6f06439f56e0b327be29f4b3aac14d537a996821", func := "loop.example/g01208/laws.FnExactRunningTotals", spec := "fnExactRunningTotals", apart := false }
def FnExactRunningTotalsSaid : Prop := fnExactRunningTotalsRow.holds Try.pinned (OpenSpec.ofChange fnExactRunningTotalsSpec)

/-- ITS FALSE NEIGHBOUR: 'it returns false'. Refute it at one input. -/
def fnExactRunningTotalsWrong : ChangeSpec := { name := "fnExactRunningTotals", fn := fun _ => fun
  | [d] => { results := [.lit (.bool false)], args := [d] }
  | _ => none }
def FnExactRunningTotalsWrongFalsely : Prop := fnExactRunningTotalsRow.holds Try.pinned (OpenSpec.ofChange fnExactRunningTotalsWrong)

/- THE SECOND FORM. 'bulk': how many values and letters a reading holds, each counted each time it is reached (what is shared counts as often as it is met; a slice's spare places count too). A statement '..UptoSaid' is the law's where the arguments, and the package variables that the reading takes, are together of bulk at most 1048576: NARROWER than '..Said'. Prove '..Said' where nothing that the law and all that it calls make is longer than what came in: it says more and counts as full. Else prove '..UptoSaid'. A law counts once. -/
mutual
def uptoBulk {H : Type} : DataW H → Nat
  | .lit (.string bytes) => bytes.length + 1
  | .lit _ => 1
  | .nil => 1
  | .ptr d => uptoBulk d + 1
  | .slice elems spare => uptoBulkAll elems + uptoBulkAll spare + 1
  | .agg parts => uptoBulkAll parts + 1
  | .iface _ d => uptoBulk d + 1
  | .map entries => uptoBulkEntries entries + 1
  | .held _ => 1
def uptoBulkAll {H : Type} : List (DataW H) → Nat
  | [] => 0
  | d :: r => uptoBulk d + uptoBulkAll r
def uptoBulkEntries {H : Type} : List (Lit × DataW H) → Nat
  | [] => 0
  | x :: r => uptoBulkEntry x + uptoBulkEntries r
def uptoBulkEntry {H : Type} : Lit × DataW H → Nat
  | (.string bytes, d) => bytes.length + uptoBulk d + 1
  | (_, d) => uptoBulk d + 1
 end
def uptoSmall : (H : Type) → List (DataW H) → Bool := fun _ ds => decide (uptoBulkAll ds ≤ 1048576)
def OpenSpec.upto (s : _root_.Go.ChangeSpec) : _root_.Go.OpenSpec := { _root_.Go.OpenSpec.ofChange s with cond := some uptoSmall }

/-- 'laws.FnExactIsRow', WHERE WHAT IT READS IS OF BULK AT MOST 1048576: true; the input reads as it did. -/
def fnExactIsRowUptoRow : OpenClaim := { program := "ytfdgdgiblealfaa", sum := "46012e808968e5bc82765c2e6f06439f56e0b327be29f4b3aac14d537a996821", func := "loop.example/g01208/laws.FnExactIsRow", spec := "fnExactIsRow", apart := false, narrowed := true }
def FnExactIsRowUptoSaid : Prop := fnExactIsRowUptoRow.holds Try.pinned (OpenSpec.upto fnExactIsRowSpec)

/-- 'laws.FnExactAreFlows', WHERE WHAT IT READS IS OF BULK AT MOST 1048576: true; the input reads as it did. -/
def fnExactAreFlowsUptoRow : OpenClaim := { program := "ytfdgdgiblealfaa", sum := "46012e808968e5bc82765c2e6f06439f56e0b327be29f4b3aac14d537a996821", func := "loop.example/g01208/laws.FnExactAreFlows", spec := "fnExactAreFlows", apart := false, narrowed := true }
def FnExactAreFlowsUptoSaid : Prop := fnExactAreFlowsUptoRow.holds Try.pinned (OpenSpec.upto fnExactAreFlowsSpec)

/-- 'laws.FnExactHeldInRow', WHERE WHAT IT READS IS OF BULK AT MOST 1048576: true; the input reads as it did. -/
def fnExactHeldInRowUptoRow : OpenClaim := { program := "ytfdgdgiblealfaa", sum := "46012e808968e5bc82765c2e6f06439f56e0b327be29f4b3aac14d537a996821", func := "loop.example/g01208/laws.FnExactHeldInRow", spec := "fnExactHeldInRow", apart := false, narrowed := true }
def FnExactHeldInRowUptoSaid : Prop := fnExactHeldInRowUptoRow.holds Try.pinned (OpenSpec.upto fnExactHeldInRowSpec)

/-- 'laws.FnExactJoinRows', WHERE WHAT IT READS IS OF BULK AT MOST 1048576: true; the input reads as it did. -/
def fnExactJoinRowsUptoRow : OpenClaim := { program := "ytfdgdgiblealfaa", sum := "46012e808968e5bc82765c2e6f06439f56e0b327be29f4b3aac14d537a996821", func := "loop.example/g01208/laws.FnExactJoinRows", spec := "fnExactJoinRows", apart := false, narrowed := true }
def FnExactJoinRowsUptoSaid : Prop := fnExactJoinRowsUptoRow.holds Try.pinned (OpenSpec.upto fnExactJoinRowsSpec)

/-- 'laws.FnExactRunningTotals', WHERE WHAT IT READS IS OF BULK AT MOST 1048576: true; the input reads as it did. -/
def fnExactRunningTotalsUptoRow : OpenClaim := { program := "ytfdgdgiblealfaa", sum := "46012e808968e5bc82765c2e6f06439f56e0b327be29f4b3aac14d537a996821", func := "loop.example/g01208/laws.FnExactRunningTotals", spec := "fnExactRunningTotals", apart := false, narrowed := true }
def FnExactRunningTotalsUptoSaid : Prop := fnExactRunningTotalsUptoRow.holds Try.pinned (OpenSpec.upto fnExactRunningTotalsSpec)

end Rows
end Go.Proofs.Ytfdgdgiblealfaa
