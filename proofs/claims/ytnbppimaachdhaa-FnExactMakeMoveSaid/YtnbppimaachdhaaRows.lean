/-
  No cell of these rows narrows 'for every input' (looked for: loops, veiled, ifaces, maps, wideKeys, modest, calm, conditions, laid).
  DERIVED. THE GIVEN ROWS OF THIS SEAT. 6 by the template 'for every input the law returns true; each argument reads behind the call as it read before'; 0 by the template 'total and deterministic' (their statements: YtnbppimaachdhaaTotals.lean).
  GIVEN WITH THE SEED: the statements are not yours to turn. If you find one false, say at which input.
  Laid BY PROGRAM, IN A SANDBOX (cutbox-rows.mjs): the forced cells as the released guide's own fill.sh prints them over the translation 1cb73b839449eaae… (all of the seat's roots in one cut). By AI agents, Wed Nov 11 2026. No macro, syntax, notation, axiom, sorry.
-/
import Derived.Test.YtnbppimaachdhaaChecked
import GoSem.Claim
import GoSem.ClaimJoined
import GoSem.ClaimMapViews
import Derived.JoinedTies
import Derived.KernelRfl
namespace Go.Proofs.Ytnbppimaachdhaa
/- THE CELL 'sum', in the pinned program and in every row, IS THE sha256 OF THE DUMP (.gsa) THAT YtnbppimaachdhaaProg.lean LOADS. Nothing in Lean hashes anything: it is a label: what it is worth is what the hold of that sum in a sandbox is worth. -/
noncomputable def Try.pinned : Pinned := { name := "ytnbppimaachdhaa", sum := "1cb73b839449eaae1e63f2a73e7fa9dbabc9e1ee606b16df601036ec7cb385ee", checked := Try.checked }
namespace Rows
def none {H : Type} : Left H := { results := [], args := [] }

/-- 'laws.FnExactAreVessels': WHATEVER THE INPUT: true; the input reads as it did. -/
def fnExactAreVesselsSpec : ChangeSpec := { name := "fnExactAreVessels", fn := fun _ => fun
  | [d] => { results := [.lit (.bool true)], args := [d] }
  | _ => none }
def fnExactAreVesselsRow : OpenClaim := { program := "ytnbppimaachdhaa", sum := "1cb73b839449eaae1e63f2a73e7fa9dbabc9e1ee606b16df601036ec7cb385ee", func := "loop.example/g01208/laws.FnExactAreVessels", spec := "fnExactAreVessels", apart := false }
def FnExactAreVesselsSaid : Prop := fnExactAreVesselsRow.holds Try.pinned (OpenSpec.ofChange fnExactAreVesselsSpec)

/-- ITS FALSE NEIGHBOUR: 'it returns false'. Refute it at one input. -/
def fnExactAreVesselsWrong : ChangeSpec := { name := "fnExactAreVessels", fn := fun _ => fun
  | [d] => { results := [.lit (.bool false)], args := [d] }
  | _ => none }
def FnExactAreVesselsWrongFalsely : Prop := fnExactAreVesselsRow.holds Try.pinned (OpenSpec.ofChange fnExactAreVesselsWrong)

/-- 'laws.FnExactSumHeld': WHATEVER THE INPUT: true; the input reads as it did. -/
def fnExactSumHeldSpec : ChangeSpec := { name := "fnExactSumHeld", fn := fun _ => fun
  | [d] => { results := [.lit (.bool true)], args := [d] }
  | _ => none }
def fnExactSumHeldRow : OpenClaim := { program := "ytnbppimaachdhaa", sum := "1cb73b839449eaae1e63f2a73e7fa9dbabc9e1ee606b16df601036ec7cb385ee", func := "loop.example/g01208/laws.FnExactSumHeld", spec := "fnExactSumHeld", apart := false }
def FnExactSumHeldSaid : Prop := fnExactSumHeldRow.holds Try.pinned (OpenSpec.ofChange fnExactSumHeldSpec)

/-- ITS FALSE NEIGHBOUR: 'it returns false'. Refute it at one input. -/
def fnExactSumHeldWrong : ChangeSpec := { name := "fnExactSumHeld", fn := fun _ => fun
  | [d] => { results := [.lit (.bool false)], args := [d] }
  | _ => none }
def FnExactSumHeldWrongFalsely : Prop := fnExactSumHeldRow.holds Try.pinned (OpenSpec.ofChange fnExactSumHeldWrong)

/-- 'laws.FnExactRoomIn': WHATEVER THE INPUT: true; the input reads as it did. -/
def fnExactRoomInSpec : ChangeSpec := { name := "fnExactRoomIn", fn := fun _ => fun
  | [d1, d2] => { results := [.lit (.bool true)], args := [d1, d2] }
  | _ => none }
def fnExactRoomInRow : OpenClaim := { program := "ytnbppimaachdhaa", sum := "1cb73b839449eaae1e63f2a73e7fa9dbabc9e1ee606b16df601036ec7cb385ee", func := "loop.example/g01208/laws.FnExactRoomIn", spec := "fnExactRoomIn", apart := false }
def FnExactRoomInSaid : Prop := fnExactRoomInRow.holds Try.pinned (OpenSpec.ofChange fnExactRoomInSpec)

/-- ITS FALSE NEIGHBOUR: 'it returns false'. Refute it at one input. -/
def fnExactRoomInWrong : ChangeSpec := { name := "fnExactRoomIn", fn := fun _ => fun
  | [d1, d2] => { results := [.lit (.bool false)], args := [d1, d2] }
  | _ => none }
def FnExactRoomInWrongFalsely : Prop := fnExactRoomInRow.holds Try.pinned (OpenSpec.ofChange fnExactRoomInWrong)

/-- 'laws.FnExactIsMove': WHATEVER THE INPUT: true; the input reads as it did. -/
def fnExactIsMoveSpec : ChangeSpec := { name := "fnExactIsMove", fn := fun _ => fun
  | [d1, d2] => { results := [.lit (.bool true)], args := [d1, d2] }
  | _ => none }
def fnExactIsMoveRow : OpenClaim := { program := "ytnbppimaachdhaa", sum := "1cb73b839449eaae1e63f2a73e7fa9dbabc9e1ee606b16df601036ec7cb385ee", func := "loop.example/g01208/laws.FnExactIsMove", spec := "fnExactIsMove", apart := false }
def FnExactIsMoveSaid : Prop := fnExactIsMoveRow.holds Try.pinned (OpenSpec.ofChange fnExactIsMoveSpec)

/-- ITS FALSE NEIGHBOUR: 'it returns false'. Refute it at one input. -/
def fnExactIsMoveWrong : ChangeSpec := { name := "fnExactIsMove", fn := fun _ => fun
  | [d1, d2] => { results := [.lit (.bool false)], args := [d1, d2] }
  | _ => none }
def FnExactIsMoveWrongFalsely : Prop := fnExactIsMoveRow.holds Try.pinned (OpenSpec.ofChange fnExactIsMoveWrong)

/-- 'laws.FnExactAmountOf': WHATEVER THE INPUT: true; the input reads as it did. -/
def fnExactAmountOfSpec : ChangeSpec := { name := "fnExactAmountOf", fn := fun _ => fun
  | [d1, d2] => { results := [.lit (.bool true)], args := [d1, d2] }
  | _ => none }
def fnExactAmountOfRow : OpenClaim := { program := "ytnbppimaachdhaa", sum := "1cb73b839449eaae1e63f2a73e7fa9dbabc9e1ee606b16df601036ec7cb385ee", func := "loop.example/g01208/laws.FnExactAmountOf", spec := "fnExactAmountOf", apart := false }
def FnExactAmountOfSaid : Prop := fnExactAmountOfRow.holds Try.pinned (OpenSpec.ofChange fnExactAmountOfSpec)

/-- ITS FALSE NEIGHBOUR: 'it returns false'. Refute it at one input. -/
def fnExactAmountOfWrong : ChangeSpec := { name := "fnExactAmountOf", fn := fun _ => fun
  | [d1, d2] => { results := [.lit (.bool false)], args := [d1, d2] }
  | _ => none }
def FnExactAmountOfWrongFalsely : Prop := fnExactAmountOfRow.holds Try.pinned (OpenSpec.ofChange fnExactAmountOfWrong)

/-- 'laws.FnExactMakeMove': WHATEVER THE INPUT: true; the input reads as it did. -/
def fnExactMakeMoveSpec : ChangeSpec := { name := "fnExactMakeMove", fn := fun _ => fun
  | [d1, d2] => { results := [.lit (.bool true)], args := [d1, d2] }
  | _ => none }
def fnExactMakeMoveRow : OpenClaim := { program := "ytnbppimaachdhaa", sum := "1cb73b839449eaae1e63f2a73e7fa9dbabc9e1ee606b16df601036ec7cb385ee", func := "loop.example/g01208/laws.FnExactMakeMove", spec := "fnExactMakeMove", apart := false }
def FnExactMakeMoveSaid : Prop := fnExactMakeMoveRow.holds Try.pinned (OpenSpec.ofChange fnExactMakeMoveSpec)

/-- ITS FALSE NEIGHBOUR: 'it returns false'. Refute it at one input. -/
def fnExactMakeMoveWrong : ChangeSpec := { name := "fnExactMakeMove", fn := fun _ => fun
  | [d1, d2] => { results := [.lit (.bool false)], args := [d1, d2] }
  | _ => none }
def FnExactMakeMoveWrongFalsely : Prop := fnExactMakeMoveRow.holds Try.pinned (OpenSpec.ofChange fnExactMakeMoveWrong)

/- THE SECOND FORM. 'bulk': how many values and letters a reading holds, each counted each time it is reached (what is shared counts as often as it is met; a slice's spare places count too). A statement '..UptoSaid' is the law's where the arguments, and the package variables that the reading takes, are together of bulk at most 1048576: NARROWER than '..Said'. Prove '..Said' where nothing that the law and all that it calls make is longer than what came in: it says more and counts as full. Else prove '..UptoSaid'. A law counts once. -/
mutual
def uptoBulk {H : Type} : DataW H → Nat
  | .lit (.string bytes) => bytes.length + 1
  | .lit _ => 1
  | .nil => 1
  | .ptr d => uptoBulk d + 1
  | .slice elems spare => uptoBulkAll elems + uptoBulkAll spare + 1
  | .agg parts => uptoBulkAll parts + 1
  | .iface _ d => uptoBulk d + 1
  | .map entries => uptoBulkEntries entries + 1
  | .held _ => 1
def uptoBulkAll {H : Type} : List (DataW H) → Nat
  | [] => 0
  | d :: r => uptoBulk d + uptoBulkAll r
def uptoBulkEntries {H : Type} : List (Lit × DataW H) → Nat
  | [] => 0
  | x :: r => uptoBulkEntry x + uptoBulkEntries r
def uptoBulkEntry {H : Type} : Lit × DataW H → Nat
  | (.string bytes, d) => bytes.length + uptoBulk d + 1
  | (_, d) => uptoBulk d + 1
 end
def uptoSmall : (H : Type) → List (DataW H) → Bool := fun _ ds => decide (uptoBulkAll ds ≤ 1048576)
def OpenSpec.upto (s : _root_.Go.ChangeSpec) : _root_.Go.OpenSpec := { _root_.Go.OpenSpec.ofChange s with cond := some uptoSmall }

/-- 'laws.FnExactAreVessels', WHERE WHAT IT READS IS OF BULK AT MOST 1048576: true; the input reads as it did. -/
def fnExactAreVesselsUptoRow : OpenClaim := { program := "ytnbppimaachdhaa", sum := "1cb73b839449eaae1e63f2a73e7fa9dbabc9e1ee606b16df601036ec7cb385ee", func := "loop.example/g01208/laws.FnExactAreVessels", spec := "fnExactAreVessels", apart := false, narrowed := true }
def FnExactAreVesselsUptoSaid : Prop := fnExactAreVesselsUptoRow.holds Try.pinned (OpenSpec.upto fnExactAreVesselsSpec)

/-- 'laws.FnExactSumHeld', WHERE WHAT IT READS IS OF BULK AT MOST 1048576: true; the input reads as it did. -/
def fnExactSumHeldUptoRow : OpenClaim := { program := "ytnbppimaachdhaa", sum := "1cb73b839449eaae1e63f2a73e7fa9dbabc9e1ee606b16df601036ec7cb385ee", func := "loop.example/g01208/laws.FnExactSumHeld", spec := "fnExactSumHeld", apart := false, narrowed := true }
def FnExactSumHeldUptoSaid : Prop := fnExactSumHeldUptoRow.holds Try.pinned (OpenSpec.upto fnExactSumHeldSpec)

/-- 'laws.FnExactRoomIn', WHERE WHAT IT READS IS OF BULK AT MOST 1048576: true; the input reads as it did. -/
def fnExactRoomInUptoRow : OpenClaim := { program := "ytnbppimaachdhaa", sum := "1cb73b839449eaae1e63f2a73e7fa9dbabc9e1ee606b16df601036ec7cb385ee", func := "loop.example/g01208/laws.FnExactRoomIn", spec := "fnExactRoomIn", apart := false, narrowed := true }
def FnExactRoomInUptoSaid : Prop := fnExactRoomInUptoRow.holds Try.pinned (OpenSpec.upto fnExactRoomInSpec)

/-- 'laws.FnExactIsMove', WHERE WHAT IT READS IS OF BULK AT MOST 1048576: true; the input reads as it did. -/
def fnExactIsMoveUptoRow : OpenClaim := { program := "ytnbppimaachdhaa", sum := "1cb73b839449eaae1e63f2a73e7fa9dbabc9e1ee606b16df601036ec7cb385ee", func := "loop.example/g01208/laws.FnExactIsMove", spec := "fnExactIsMove", apart := false, narrowed := true }
def FnExactIsMoveUptoSaid : Prop := fnExactIsMoveUptoRow.holds Try.pinned (OpenSpec.upto fnExactIsMoveSpec)

/-- 'laws.FnExactAmountOf', WHERE WHAT IT READS IS OF BULK AT MOST 1048576: true; the input reads as it did. -/
def fnExactAmountOfUptoRow : OpenClaim := { program := "ytnbppimaachdhaa", sum := "1cb73b839449eaae1e63f2a73e7fa9dbabc9e1ee606b16df601036ec7cb385ee", func := "loop.example/g01208/laws.FnExactAmountOf", spec := "fnExactAmountOf", apart := false, narrowed := true }
def FnExactAmountOfUptoSaid : Prop := fnExactAmountOfUptoRow.holds Try.pinned (OpenSpec.upto fnExactAmountOfSpec)

/-- 'laws.FnExactMakeMove', WHERE WHAT IT READS IS OF BULK AT MOST 1048576: true; the input reads as it did. -/
def fnExactMakeMoveUptoRow : OpenClaim := { program := "ytnbppimaachdhaa", sum := "1cb73b839449eaae1e63f2a73e7fa9dbabc9e1ee606b16df601036ec7cb385ee", func := "loop.example/g01208/laws.FnExactMakeMove", spec := "fnExactMakeMove", apart := false, narrowed := true }
def FnExactMakeMoveUptoSaid : Prop := fnExactMakeMoveUptoRow.holds Try.pinned (OpenSpec.upto fnExactMakeMoveSpec)

end Rows
end Go.Proofs.Ytnbppimaachdhaa
