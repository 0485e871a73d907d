/-
  No cell of these rows narrows 'for every input' (looked for: loops, veiled, ifaces, maps, wideKeys, modest, calm, conditions, laid).
  DERIVED. THE GIVEN ROWS OF THIS SEAT. 8 by the template 'for every input the law returns true; each argument reads behind the call as it read before'; 0 by the template 'total and deterministic' (their statements: YtjkfedhpgionjaaTotals.lean).
  GIVEN WITH THE SEED: the statements are not yours to turn. If you find one false, say at which input.
  Laid BY PROGRAM, IN A SANDBOX (cutbox-rows.mjs): the forced cells as the released guide's own fill.sh prints them over the translation fe4db770990c85d1… (all of the seat's roots in one cut). By AI agents, Wed Nov 11 2026. No macro, syntax, notation, axiom, sorry.
-/
import Derived.Test.YtjkfedhpgionjaaChecked
import GoSem.Claim
import GoSem.ClaimJoined
import GoSem.ClaimMapViews
import Derived.JoinedTies
import Derived.KernelRfl
namespace Go.Proofs.Ytjkfedhpgionjaa
/- THE CELL 'sum', in the pinned program and in every row, IS THE sha256 OF THE DUMP (.gsa) THAT YtjkfedhpgionjaaProg.lean LOADS. Nothing in Lean hashes anything: it is a label: what it is worth is what the hold of that sum in a sandbox is worth. -/
noncomputable def Try.pinned : Pinned := { name := "ytjkfedhpgionjaa", sum := "fe4db770990c85d123900f3cdb4c6e0d72e856259dcfbd8f9f519053e571ba3c", checked := Try.checked }
namespace Rows
def none {H : Type} : Left H := { results := [], args := [] }

/-- 'laws.FnExactIsClock': WHATEVER THE INPUT: true; the input reads as it did. -/
def fnExactIsClockSpec : ChangeSpec := { name := "fnExactIsClock", fn := fun _ => fun
  | [d] => { results := [.lit (.bool true)], args := [d] }
  | _ => none }
def fnExactIsClockRow : OpenClaim := { program := "ytjkfedhpgionjaa", sum := "fe4db770990c85d123900f3cdb4c6e0d72e856259dcfbd8f9f519053e571ba3c", func := "loop.example/g01208/laws.FnExactIsClock", spec := "fnExactIsClock", apart := false }
def FnExactIsClockSaid : Prop := fnExactIsClockRow.holds Try.pinned (OpenSpec.ofChange fnExactIsClockSpec)

/-- ITS FALSE NEIGHBOUR: 'it returns false'. Refute it at one input. -/
def fnExactIsClockWrong : ChangeSpec := { name := "fnExactIsClock", fn := fun _ => fun
  | [d] => { results := [.lit (.bool false)], args := [d] }
  | _ => none }
def FnExactIsClockWrongFalsely : Prop := fnExactIsClockRow.holds Try.pinned (OpenSpec.ofChange fnExactIsClockWrong)

/-- 'laws.FnExactDropOf': WHATEVER THE INPUT: true; the input reads as it did. -/
def fnExactDropOfSpec : ChangeSpec := { name := "fnExactDropOf", fn := fun _ => fun
  | [d] => { results := [.lit (.bool true)], args := [d] }
  | _ => none }
def fnExactDropOfRow : OpenClaim := { program := "ytjkfedhpgionjaa", sum := "fe4db770990c85d123900f3cdb4c6e0d72e856259dcfbd8f9f519053e571ba3c", func := "loop.example/g01208/laws.FnExactDropOf", spec := "fnExactDropOf", apart := false }
def FnExactDropOfSaid : Prop := fnExactDropOfRow.holds Try.pinned (OpenSpec.ofChange fnExactDropOfSpec)

/-- ITS FALSE NEIGHBOUR: 'it returns false'. Refute it at one input. -/
def fnExactDropOfWrong : ChangeSpec := { name := "fnExactDropOf", fn := fun _ => fun
  | [d] => { results := [.lit (.bool false)], args := [d] }
  | _ => none }
def FnExactDropOfWrongFalsely : Prop := fnExactDropOfRow.holds Try.pinned (OpenSpec.ofChange fnExactDropOfWrong)

/-- 'laws.FnExactLeastLevelFor': WHATEVER THE INPUT: true; the input reads as it did. -/
def fnExactLeastLevelForSpec : ChangeSpec := { name := "fnExactLeastLevelFor", fn := fun _ => fun
  | [d1, d2] => { results := [.lit (.bool true)], args := [d1, d2] }
  | _ => none }
def fnExactLeastLevelForRow : OpenClaim := { program := "ytjkfedhpgionjaa", sum := "fe4db770990c85d123900f3cdb4c6e0d72e856259dcfbd8f9f519053e571ba3c", func := "loop.example/g01208/laws.FnExactLeastLevelFor", spec := "fnExactLeastLevelFor", apart := false }
def FnExactLeastLevelForSaid : Prop := fnExactLeastLevelForRow.holds Try.pinned (OpenSpec.ofChange fnExactLeastLevelForSpec)

/-- ITS FALSE NEIGHBOUR: 'it returns false'. Refute it at one input. -/
def fnExactLeastLevelForWrong : ChangeSpec := { name := "fnExactLeastLevelFor", fn := fun _ => fun
  | [d1, d2] => { results := [.lit (.bool false)], args := [d1, d2] }
  | _ => none }
def FnExactLeastLevelForWrongFalsely : Prop := fnExactLeastLevelForRow.holds Try.pinned (OpenSpec.ofChange fnExactLeastLevelForWrong)

/-- 'laws.FnExactIsWheel': WHATEVER THE INPUT: true; the input reads as it did. -/
def fnExactIsWheelSpec : ChangeSpec := { name := "fnExactIsWheel", fn := fun _ => fun
  | [d] => { results := [.lit (.bool true)], args := [d] }
  | _ => none }
def fnExactIsWheelRow : OpenClaim := { program := "ytjkfedhpgionjaa", sum := "fe4db770990c85d123900f3cdb4c6e0d72e856259dcfbd8f9f519053e571ba3c", func := "loop.example/g01208/laws.FnExactIsWheel", spec := "fnExactIsWheel", apart := false }
def FnExactIsWheelSaid : Prop := fnExactIsWheelRow.holds Try.pinned (OpenSpec.ofChange fnExactIsWheelSpec)

/-- ITS FALSE NEIGHBOUR: 'it returns false'. Refute it at one input. -/
def fnExactIsWheelWrong : ChangeSpec := { name := "fnExactIsWheel", fn := fun _ => fun
  | [d] => { results := [.lit (.bool false)], args := [d] }
  | _ => none }
def FnExactIsWheelWrongFalsely : Prop := fnExactIsWheelRow.holds Try.pinned (OpenSpec.ofChange fnExactIsWheelWrong)

/-- 'laws.FnExactWheelAfter': WHATEVER THE INPUT: true; the input reads as it did. -/
def fnExactWheelAfterSpec : ChangeSpec := { name := "fnExactWheelAfter", fn := fun _ => fun
  | [d1, d2] => { results := [.lit (.bool true)], args := [d1, d2] }
  | _ => none }
def fnExactWheelAfterRow : OpenClaim := { program := "ytjkfedhpgionjaa", sum := "fe4db770990c85d123900f3cdb4c6e0d72e856259dcfbd8f9f519053e571ba3c", func := "loop.example/g01208/laws.FnExactWheelAfter", spec := "fnExactWheelAfter", apart := false }
def FnExactWheelAfterSaid : Prop := fnExactWheelAfterRow.holds Try.pinned (OpenSpec.ofChange fnExactWheelAfterSpec)

/-- ITS FALSE NEIGHBOUR: 'it returns false'. Refute it at one input. -/
def fnExactWheelAfterWrong : ChangeSpec := { name := "fnExactWheelAfter", fn := fun _ => fun
  | [d1, d2] => { results := [.lit (.bool false)], args := [d1, d2] }
  | _ => none }
def FnExactWheelAfterWrongFalsely : Prop := fnExactWheelAfterRow.holds Try.pinned (OpenSpec.ofChange fnExactWheelAfterWrong)

/-- 'laws.FnExactTurnTime': WHATEVER THE INPUT: true; the input reads as it did. -/
def fnExactTurnTimeSpec : ChangeSpec := { name := "fnExactTurnTime", fn := fun _ => fun
  | [d] => { results := [.lit (.bool true)], args := [d] }
  | _ => none }
def fnExactTurnTimeRow : OpenClaim := { program := "ytjkfedhpgionjaa", sum := "fe4db770990c85d123900f3cdb4c6e0d72e856259dcfbd8f9f519053e571ba3c", func := "loop.example/g01208/laws.FnExactTurnTime", spec := "fnExactTurnTime", apart := false }
def FnExactTurnTimeSaid : Prop := fnExactTurnTimeRow.holds Try.pinned (OpenSpec.ofChange fnExactTurnTimeSpec)

/-- ITS FALSE NEIGHBOUR: 'it returns false'. Refute it at one input. -/
def fnExactTurnTimeWrong : ChangeSpec := { name := "fnExactTurnTime", fn := fun _ => fun
  | [d] => { results := [.lit (.bool false)], args := [d] }
  | _ => none }
def FnExactTurnTimeWrongFalsely : Prop := fnExactTurnTimeRow.holds Try.pinned (OpenSpec.ofChange fnExactTurnTimeWrong)

/-- 'laws.FnExactTimesOfScoop': WHATEVER THE INPUT: true; the input reads as it did. -/
def fnExactTimesOfScoopSpec : ChangeSpec := { name := "fnExactTimesOfScoop", fn := fun _ => fun
  | [d1, d2, d3] => { results := [.lit (.bool true)], args := [d1, d2, d3] }
  | _ => none }
def fnExactTimesOfScoopRow : OpenClaim := { program := "ytjkfedhpgionjaa", sum := "fe4db770990c85d123900f3cdb4c6e0d72e856259dcfbd8f9f519053e571ba3c", func := "loop.example/g01208/laws.FnExactTimesOfScoop", spec := "fnExactTimesOfScoop", apart := false }
def FnExactTimesOfScoopSaid : Prop := fnExactTimesOfScoopRow.holds Try.pinned (OpenSpec.ofChange fnExactTimesOfScoopSpec)

/-- ITS FALSE NEIGHBOUR: 'it returns false'. Refute it at one input. -/
def fnExactTimesOfScoopWrong : ChangeSpec := { name := "fnExactTimesOfScoop", fn := fun _ => fun
  | [d1, d2, d3] => { results := [.lit (.bool false)], args := [d1, d2, d3] }
  | _ => none }
def FnExactTimesOfScoopWrongFalsely : Prop := fnExactTimesOfScoopRow.holds Try.pinned (OpenSpec.ofChange fnExactTimesOfScoopWrong)

/-- 'laws.FnExactSpiltByWheel': WHATEVER THE INPUT: true; the input reads as it did. -/
def fnExactSpiltByWheelSpec : ChangeSpec := { name := "fnExactSpiltByWheel", fn := fun _ => fun
  | [d1, d2] => { results := [.lit (.bool true)], args := [d1, d2] }
  | _ => none }
def fnExactSpiltByWheelRow : OpenClaim := { program := "ytjkfedhpgionjaa", sum := "fe4db770990c85d123900f3cdb4c6e0d72e856259dcfbd8f9f519053e571ba3c", func := "loop.example/g01208/laws.FnExactSpiltByWheel", spec := "fnExactSpiltByWheel", apart := false }
def FnExactSpiltByWheelSaid : Prop := fnExactSpiltByWheelRow.holds Try.pinned (OpenSpec.ofChange fnExactSpiltByWheelSpec)

/-- ITS FALSE NEIGHBOUR: 'it returns false'. Refute it at one input. -/
def fnExactSpiltByWheelWrong : ChangeSpec := { name := "fnExactSpiltByWheel", fn := fun _ => fun
  | [d1, d2] => { results := [.lit (.bool false)], args := [d1, d2] }
  | _ => none }
def FnExactSpiltByWheelWrongFalsely : Prop := fnExactSpiltByWheelRow.holds Try.pinned (OpenSpec.ofChange fnExactSpiltByWheelWrong)

/- THE SECOND FORM. 'bulk': how many values and letters a reading holds, each counted each time it is reached (what is shared counts as often as it is met; a slice's spare places count too). A statement '..UptoSaid' is the law's where the arguments, and the package variables that the reading takes, are together of bulk at most 1048576: NARROWER than '..Said'. Prove '..Said' where nothing that the law and all that it calls make is longer than what came in: it says more and counts as full. Else prove '..UptoSaid'. A law counts once. -/
mutual
def uptoBulk {H : Type} : DataW H → Nat
  | .lit (.string bytes) => bytes.length + 1
  | .lit _ => 1
  | .nil => 1
  | .ptr d => uptoBulk d + 1
  | .slice elems spare => uptoBulkAll elems + uptoBulkAll spare + 1
  | .agg parts => uptoBulkAll parts + 1
  | .iface _ d => uptoBulk d + 1
  | .map entries => uptoBulkEntries entries + 1
  | .held _ => 1
def uptoBulkAll {H : Type} : List (DataW H) → Nat
  | [] => 0
  | d :: r => uptoBulk d + uptoBulkAll r
def uptoBulkEntries {H : Type} : List (Lit × DataW H) → Nat
  | [] => 0
  | x :: r => uptoBulkEntry x + uptoBulkEntries r
def uptoBulkEntry {H : Type} : Lit × DataW H → Nat
  | (.string bytes, d) => bytes.length + uptoBulk d + 1
  | (_, d) => uptoBulk d + 1
 end
def uptoSmall : (H : Type) → List (DataW H) → Bool := fun _ ds => decide (uptoBulkAll ds ≤ 1048576)
def OpenSpec.upto (s : _root_.Go.ChangeSpec) : _root_.Go.OpenSpec := { _root_.Go.OpenSpec.ofChange s with cond := some uptoSmall }

/-- 'laws.FnExactIsClock', WHERE WHAT IT READS IS OF BULK AT MOST 1048576: true; the input reads as it did. -/
def fnExactIsClockUptoRow : OpenClaim := { program := "ytjkfedhpgionjaa", sum := "fe4db770990c85d123900f3cdb4c6e0d72e856259dcfbd8f9f519053e571ba3c", func := "loop.example/g01208/laws.FnExactIsClock", spec := "fnExactIsClock", apart := false, narrowed := true }
def FnExactIsClockUptoSaid : Prop := fnExactIsClockUptoRow.holds Try.pinned (OpenSpec.upto fnExactIsClockSpec)

/-- 'laws.FnExactDropOf', WHERE WHAT IT READS IS OF BULK AT MOST 1048576: true; the input reads as it did. -/
def fnExactDropOfUptoRow : OpenClaim := { program := "ytjkfedhpgionjaa", sum := "fe4db770990c85d123900f3cdb4c6e0d72e856259dcfbd8f9f519053e571ba3c", func := "loop.example/g01208/laws.FnExactDropOf", spec := "fnExactDropOf", apart := false, narrowed := true }
def FnExactDropOfUptoSaid : Prop := fnExactDropOfUptoRow.holds Try.pinned (OpenSpec.upto fnExactDropOfSpec)

/-- 'laws.FnExactLeastLevelFor', WHERE WHAT IT READS IS OF BULK AT MOST 1048576: true; the input reads as it did. -/
def fnExactLeastLevelForUptoRow : OpenClaim := { program := "ytjkfedhpgionjaa", sum := "fe4db770990c85d123900f3cdb4c6e0d72e856259dcfbd8f9f519053e571ba3c", func := "loop.example/g01208/laws.FnExactLeastLevelFor", spec := "fnExactLeastLevelFor", apart := false, narrowed := true }
def FnExactLeastLevelForUptoSaid : Prop := fnExactLeastLevelForUptoRow.holds Try.pinned (OpenSpec.upto fnExactLeastLevelForSpec)

/-- 'laws.FnExactIsWheel', WHERE WHAT IT READS IS OF BULK AT MOST 1048576: true; the input reads as it did. -/
def fnExactIsWheelUptoRow : OpenClaim := { program := "ytjkfedhpgionjaa", sum := "fe4db770990c85d123900f3cdb4c6e0d72e856259dcfbd8f9f519053e571ba3c", func := "loop.example/g01208/laws.FnExactIsWheel", spec := "fnExactIsWheel", apart := false, narrowed := true }
def FnExactIsWheelUptoSaid : Prop := fnExactIsWheelUptoRow.holds Try.pinned (OpenSpec.upto fnExactIsWheelSpec)

/-- 'laws.FnExactWheelAfter', WHERE WHAT IT READS IS OF BULK AT MOST 1048576: true; the input reads as it did. -/
def fnExactWheelAfterUptoRow : OpenClaim := { program := "ytjkfedhpgionjaa", sum := "fe4db770990c85d123900f3cdb4c6e0d72e856259dcfbd8f9f519053e571ba3c", func := "loop.example/g01208/laws.FnExactWheelAfter", spec := "fnExactWheelAfter", apart := false, narrowed := true }
def FnExactWheelAfterUptoSaid : Prop := fnExactWheelAfterUptoRow.holds Try.pinned (OpenSpec.upto fnExactWheelAfterSpec)

/-- 'laws.FnExactTurnTime', WHERE WHAT IT READS IS OF BULK AT MOST 1048576: true; the input reads as it did. -/
def fnExactTurnTimeUptoRow : OpenClaim := { program := "ytjkfedhpgionjaa", sum := "fe4db770990c85d123900f3cdb4c6e0d72e856259dcfbd8f9f519053e571ba3c", func := "loop.example/g01208/laws.FnExactTurnTime", spec := "fnExactTurnTime", apart := false, narrowed := true }
def FnExactTurnTimeUptoSaid : Prop := fnExactTurnTimeUptoRow.holds Try.pinned (OpenSpec.upto fnExactTurnTimeSpec)

/-- 'laws.FnExactTimesOfScoop', WHERE WHAT IT READS IS OF BULK AT MOST 1048576: true; the input reads as it did. -/
def fnExactTimesOfScoopUptoRow : OpenClaim := { program := "ytjkfedhpgionjaa", sum := "fe4db770990c85d123900f3cdb4c6e0d72e856259dcfbd8f9f519053e571ba3c", func := "loop.example/g01208/laws.FnExactTimesOfScoop", spec := "fnExactTimesOfScoop", apart := false, narrowed := true }
def FnExactTimesOfScoopUptoSaid : Prop := fnExactTimesOfScoopUptoRow.holds Try.pinned (OpenSpec.upto fnExactTimesOfScoopSpec)

/-- 'laws.FnExactSpiltByWheel', WHERE WHAT IT READS IS OF BULK AT MOST 1048576: true; the input reads as it did. -/
def fnExactSpiltByWheelUptoRow : OpenClaim := { program := "ytjkfedhpgionjaa", sum := "fe4db770990c85d123900f3cdb4c6e0d72e856259dcfbd8f9f519053e571ba3c", func := "loop.example/g01208/laws.FnExactSpiltByWheel", spec := "fnExactSpiltByWheel", apart := false, narrowed := true }
def FnExactSpiltByWheelUptoSaid : Prop := fnExactSpiltByWheelUptoRow.holds Try.pinned (OpenSpec.upto fnExactSpiltByWheelSpec)

end Rows
end Go.Proofs.Ytjkfedhpgionjaa
