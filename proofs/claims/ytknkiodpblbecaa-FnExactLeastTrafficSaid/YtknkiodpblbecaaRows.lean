/-
  No cell of these rows narrows 'for every input' (looked for: loops, veiled, ifaces, maps, wideKeys, modest, calm, conditions, laid).
  DERIVED. THE GIVEN ROWS OF THIS SEAT. 6 by the template 'for every input the law returns true; each argument reads behind the call as it read before'; 0 by the template 'total and deterministic' (their statements: YtknkiodpblbecaaTotals.lean).
  GIVEN WITH THE SEED: the statements are not yours to turn. If you find one false, say at which input.
  Laid BY PROGRAM, IN A SANDBOX (cutbox-rows.mjs): the forced cells as the released guide's own fill.sh prints them over the translation 2212548e91ff5749… (all of the seat's roots in one cut). By AI agents, Wed Nov 11 2026. No macro, syntax, notation, axiom, sorry.
-/
import Derived.Test.YtknkiodpblbecaaChecked
import GoSem.Claim
import GoSem.ClaimJoined
import GoSem.ClaimMapViews
import Derived.JoinedTies
import Derived.KernelRfl
namespace Go.Proofs.Ytknkiodpblbecaa
/- THE CELL 'sum', in the pinned program and in every row, IS THE sha256 OF THE DUMP (.gsa) THAT YtknkiodpblbecaaProg.lean LOADS. Nothing in Lean hashes anything: it is a label: what it is worth is what the hold of that sum in a sandbox is worth. -/
noncomputable def Try.pinned : Pinned := { name := "ytknkiodpblbecaa", sum := "2212548e91ff57499a712b07a879732f864c9d2f9fbb4cfec1ace33beea7fca2", checked := Try.checked }
namespace Rows
def none {H : Type} : Left H := { results := [], args := [] }

/-- 'laws.FnExactIsFlight': WHATEVER THE INPUT: true; the input reads as it did. -/
def fnExactIsFlightSpec : ChangeSpec := { name := "fnExactIsFlight", fn := fun _ => fun
  | [d] => { results := [.lit (.bool true)], args := [d] }
  | _ => none }
def fnExactIsFlightRow : OpenClaim := { program := "ytknkiodpblbecaa", sum := "2212548e91ff57499a712b07a879732f864c9d2f9fbb4cfec1ace33beea7fca2", func := "loop.example/g01208/laws.FnExactIsFlight", spec := "fnExactIsFlight", apart := false }
def FnExactIsFlightSaid : Prop := fnExactIsFlightRow.holds Try.pinned (OpenSpec.ofChange fnExactIsFlightSpec)

/-- ITS FALSE NEIGHBOUR: 'it returns false'. Refute it at one input. -/
def fnExactIsFlightWrong : ChangeSpec := { name := "fnExactIsFlight", fn := fun _ => fun
  | [d] => { results := [.lit (.bool false)], args := [d] }
  | _ => none }
def FnExactIsFlightWrongFalsely : Prop := fnExactIsFlightRow.holds Try.pinned (OpenSpec.ofChange fnExactIsFlightWrong)

/-- 'laws.FnExactWaterInLocks': WHATEVER THE INPUT: true; the input reads as it did. -/
def fnExactWaterInLocksSpec : ChangeSpec := { name := "fnExactWaterInLocks", fn := fun _ => fun
  | [d] => { results := [.lit (.bool true)], args := [d] }
  | _ => none }
def fnExactWaterInLocksRow : OpenClaim := { program := "ytknkiodpblbecaa", sum := "2212548e91ff57499a712b07a879732f864c9d2f9fbb4cfec1ace33beea7fca2", func := "loop.example/g01208/laws.FnExactWaterInLocks", spec := "fnExactWaterInLocks", apart := false }
def FnExactWaterInLocksSaid : Prop := fnExactWaterInLocksRow.holds Try.pinned (OpenSpec.ofChange fnExactWaterInLocksSpec)

/-- ITS FALSE NEIGHBOUR: 'it returns false'. Refute it at one input. -/
def fnExactWaterInLocksWrong : ChangeSpec := { name := "fnExactWaterInLocks", fn := fun _ => fun
  | [d] => { results := [.lit (.bool false)], args := [d] }
  | _ => none }
def FnExactWaterInLocksWrongFalsely : Prop := fnExactWaterInLocksRow.holds Try.pinned (OpenSpec.ofChange fnExactWaterInLocksWrong)

/-- 'laws.FnExactHeightOfFlight': WHATEVER THE INPUT: true; the input reads as it did. -/
def fnExactHeightOfFlightSpec : ChangeSpec := { name := "fnExactHeightOfFlight", fn := fun _ => fun
  | [d] => { results := [.lit (.bool true)], args := [d] }
  | _ => none }
def fnExactHeightOfFlightRow : OpenClaim := { program := "ytknkiodpblbecaa", sum := "2212548e91ff57499a712b07a879732f864c9d2f9fbb4cfec1ace33beea7fca2", func := "loop.example/g01208/laws.FnExactHeightOfFlight", spec := "fnExactHeightOfFlight", apart := false }
def FnExactHeightOfFlightSaid : Prop := fnExactHeightOfFlightRow.holds Try.pinned (OpenSpec.ofChange fnExactHeightOfFlightSpec)

/-- ITS FALSE NEIGHBOUR: 'it returns false'. Refute it at one input. -/
def fnExactHeightOfFlightWrong : ChangeSpec := { name := "fnExactHeightOfFlight", fn := fun _ => fun
  | [d] => { results := [.lit (.bool false)], args := [d] }
  | _ => none }
def FnExactHeightOfFlightWrongFalsely : Prop := fnExactHeightOfFlightRow.holds Try.pinned (OpenSpec.ofChange fnExactHeightOfFlightWrong)

/-- 'laws.FnExactSavedShare': WHATEVER THE INPUT: true; the input reads as it did. -/
def fnExactSavedShareSpec : ChangeSpec := { name := "fnExactSavedShare", fn := fun _ => fun
  | [d] => { results := [.lit (.bool true)], args := [d] }
  | _ => none }
def fnExactSavedShareRow : OpenClaim := { program := "ytknkiodpblbecaa", sum := "2212548e91ff57499a712b07a879732f864c9d2f9fbb4cfec1ace33beea7fca2", func := "loop.example/g01208/laws.FnExactSavedShare", spec := "fnExactSavedShare", apart := false }
def FnExactSavedShareSaid : Prop := fnExactSavedShareRow.holds Try.pinned (OpenSpec.ofChange fnExactSavedShareSpec)

/-- ITS FALSE NEIGHBOUR: 'it returns false'. Refute it at one input. -/
def fnExactSavedShareWrong : ChangeSpec := { name := "fnExactSavedShare", fn := fun _ => fun
  | [d] => { results := [.lit (.bool false)], args := [d] }
  | _ => none }
def FnExactSavedShareWrongFalsely : Prop := fnExactSavedShareRow.holds Try.pinned (OpenSpec.ofChange fnExactSavedShareWrong)

/-- 'laws.FnExactWaterSaved': WHATEVER THE INPUT: true; the input reads as it did. -/
def fnExactWaterSavedSpec : ChangeSpec := { name := "fnExactWaterSaved", fn := fun _ => fun
  | [d1, d2] => { results := [.lit (.bool true)], args := [d1, d2] }
  | _ => none }
def fnExactWaterSavedRow : OpenClaim := { program := "ytknkiodpblbecaa", sum := "2212548e91ff57499a712b07a879732f864c9d2f9fbb4cfec1ace33beea7fca2", func := "loop.example/g01208/laws.FnExactWaterSaved", spec := "fnExactWaterSaved", apart := false }
def FnExactWaterSavedSaid : Prop := fnExactWaterSavedRow.holds Try.pinned (OpenSpec.ofChange fnExactWaterSavedSpec)

/-- ITS FALSE NEIGHBOUR: 'it returns false'. Refute it at one input. -/
def fnExactWaterSavedWrong : ChangeSpec := { name := "fnExactWaterSaved", fn := fun _ => fun
  | [d1, d2] => { results := [.lit (.bool false)], args := [d1, d2] }
  | _ => none }
def FnExactWaterSavedWrongFalsely : Prop := fnExactWaterSavedRow.holds Try.pinned (OpenSpec.ofChange fnExactWaterSavedWrong)

/-- 'laws.FnExactLeastTraffic': WHATEVER THE INPUT: true; the input reads as it did. -/
def fnExactLeastTrafficSpec : ChangeSpec := { name := "fnExactLeastTraffic", fn := fun _ => fun
  | [d1, d2, d3] => { results := [.lit (.bool true)], args := [d1, d2, d3] }
  | _ => none }
def fnExactLeastTrafficRow : OpenClaim := { program := "ytknkiodpblbecaa", sum := "2212548e91ff57499a712b07a879732f864c9d2f9fbb4cfec1ace33beea7fca2", func := "loop.example/g01208/laws.FnExactLeastTraffic", spec := "fnExactLeastTraffic", apart := false }
def FnExactLeastTrafficSaid : Prop := fnExactLeastTrafficRow.holds Try.pinned (OpenSpec.ofChange fnExactLeastTrafficSpec)

/-- ITS FALSE NEIGHBOUR: 'it returns false'. Refute it at one input. -/
def fnExactLeastTrafficWrong : ChangeSpec := { name := "fnExactLeastTraffic", fn := fun _ => fun
  | [d1, d2, d3] => { results := [.lit (.bool false)], args := [d1, d2, d3] }
  | _ => none }
def FnExactLeastTrafficWrongFalsely : Prop := fnExactLeastTrafficRow.holds Try.pinned (OpenSpec.ofChange fnExactLeastTrafficWrong)

/- THE SECOND FORM. 'bulk': how many values and letters a reading holds, each counted each time it is reached (what is shared counts as often as it is met; a slice's spare places count too). A statement '..UptoSaid' is the law's where the arguments, and the package variables that the reading takes, are together of bulk at most 1048576: NARROWER than '..Said'. Prove '..Said' where nothing that the law and all that it calls make is longer than what came in: it says more and counts as full. Else prove '..UptoSaid'. A law counts once. -/
mutual
def uptoBulk {H : Type} : DataW H → Nat
  | .lit (.string bytes) => bytes.length + 1
  | .lit _ => 1
  | .nil => 1
  | .ptr d => uptoBulk d + 1
  | .slice elems spare => uptoBulkAll elems + uptoBulkAll spare + 1
  | .agg parts => uptoBulkAll parts + 1
  | .iface _ d => uptoBulk d + 1
  | .map entries => uptoBulkEntries entries + 1
  | .held _ => 1
def uptoBulkAll {H : Type} : List (DataW H) → Nat
  | [] => 0
  | d :: r => uptoBulk d + uptoBulkAll r
def uptoBulkEntries {H : Type} : List (Lit × DataW H) → Nat
  | [] => 0
  | x :: r => uptoBulkEntry x + uptoBulkEntries r
def uptoBulkEntry {H : Type} : Lit × DataW H → Nat
  | (.string bytes, d) => bytes.length + uptoBulk d + 1
  | (_, d) => uptoBulk d + 1
 end
def uptoSmall : (H : Type) → List (DataW H) → Bool := fun _ ds => decide (uptoBulkAll ds ≤ 1048576)
def OpenSpec.upto (s : _root_.Go.ChangeSpec) : _root_.Go.OpenSpec := { _root_.Go.OpenSpec.ofChange s with cond := some uptoSmall }

/-- 'laws.FnExactIsFlight', WHERE WHAT IT READS IS OF BULK AT MOST 1048576: true; the input reads as it did. -/
def fnExactIsFlightUptoRow : OpenClaim := { program := "ytknkiodpblbecaa", sum := "2212548e91ff57499a712b07a879732f864c9d2f9fbb4cfec1ace33beea7fca2", func := "loop.example/g01208/laws.FnExactIsFlight", spec := "fnExactIsFlight", apart := false, narrowed := true }
def FnExactIsFlightUptoSaid : Prop := fnExactIsFlightUptoRow.holds Try.pinned (OpenSpec.upto fnExactIsFlightSpec)

/-- 'laws.FnExactWaterInLocks', WHERE WHAT IT READS IS OF BULK AT MOST 1048576: true; the input reads as it did. -/
def fnExactWaterInLocksUptoRow : OpenClaim := { program := "ytknkiodpblbecaa", sum := "2212548e91ff57499a712b07a879732f864c9d2f9fbb4cfec1ace33beea7fca2", func := "loop.example/g01208/laws.FnExactWaterInLocks", spec := "fnExactWaterInLocks", apart := false, narrowed := true }
def FnExactWaterInLocksUptoSaid : Prop := fnExactWaterInLocksUptoRow.holds Try.pinned (OpenSpec.upto fnExactWaterInLocksSpec)

/-- 'laws.FnExactHeightOfFlight', WHERE WHAT IT READS IS OF BULK AT MOST 1048576: true; the input reads as it did. -/
def fnExactHeightOfFlightUptoRow : OpenClaim := { program := "ytknkiodpblbecaa", sum := "2212548e91ff57499a712b07a879732f864c9d2f9fbb4cfec1ace33beea7fca2", func := "loop.example/g01208/laws.FnExactHeightOfFlight", spec := "fnExactHeightOfFlight", apart := false, narrowed := true }
def FnExactHeightOfFlightUptoSaid : Prop := fnExactHeightOfFlightUptoRow.holds Try.pinned (OpenSpec.upto fnExactHeightOfFlightSpec)

/-- 'laws.FnExactSavedShare', WHERE WHAT IT READS IS OF BULK AT MOST 1048576: true; the input reads as it did. -/
def fnExactSavedShareUptoRow : OpenClaim := { program := "ytknkiodpblbecaa", sum := "2212548e91ff57499a712b07a879732f864c9d2f9fbb4cfec1ace33beea7fca2", func := "loop.example/g01208/laws.FnExactSavedShare", spec := "fnExactSavedShare", apart := false, narrowed := true }
def FnExactSavedShareUptoSaid : Prop := fnExactSavedShareUptoRow.holds Try.pinned (OpenSpec.upto fnExactSavedShareSpec)

/-- 'laws.FnExactWaterSaved', WHERE WHAT IT READS IS OF BULK AT MOST 1048576: true; the input reads as it did. -/
def fnExactWaterSavedUptoRow : OpenClaim := { program := "ytknkiodpblbecaa", sum := "2212548e91ff57499a712b07a879732f864c9d2f9fbb4cfec1ace33beea7fca2", func := "loop.example/g01208/laws.FnExactWaterSaved", spec := "fnExactWaterSaved", apart := false, narrowed := true }
def FnExactWaterSavedUptoSaid : Prop := fnExactWaterSavedUptoRow.holds Try.pinned (OpenSpec.upto fnExactWaterSavedSpec)

/-- 'laws.FnExactLeastTraffic', WHERE WHAT IT READS IS OF BULK AT MOST 1048576: true; the input reads as it did. -/
def fnExactLeastTrafficUptoRow : OpenClaim := { program := "ytknkiodpblbecaa", sum := "2212548e91ff57499a712b07a879732f864c9d2f9fbb4cfec1ace33beea7fca2", func := "loop.example/g01208/laws.FnExactLeastTraffic", spec := "fnExactLeastTraffic", apart := false, narrowed := true }
def FnExactLeastTrafficUptoSaid : Prop := fnExactLeastTrafficUptoRow.holds Try.pinned (OpenSpec.upto fnExactLeastTrafficSpec)

end Rows
end Go.Proofs.Ytknkiodpblbecaa
