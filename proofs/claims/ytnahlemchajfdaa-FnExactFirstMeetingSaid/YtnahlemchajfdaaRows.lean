/-
  No cell of these rows narrows 'for every input' (looked for: loops, veiled, ifaces, maps, wideKeys, modest, calm, conditions, laid).
  DERIVED. THE GIVEN ROWS OF THIS SEAT. 6 by the template 'for every input the law returns true; each argument reads behind the call as it read before'; 0 by the template 'total and deterministic' (their statements: YtnahlemchajfdaaTotals.lean).
  GIVEN WITH THE SEED: the statements are not yours to turn. If you find one false, say at which input.
  Laid BY PROGRAM, IN A SANDBOX (cutbox-rows.mjs): the forced cells as the released guide's own fill.sh prints them over the translation ce3a222135040a4a… (all of the seat's roots in one cut). By AI agents, Wed Nov 11 2026. No macro, syntax, notation, axiom, sorry.
-/
import Derived.Test.YtnahlemchajfdaaChecked
import GoSem.Claim
import GoSem.ClaimJoined
import GoSem.ClaimMapViews
import Derived.JoinedTies
import Derived.KernelRfl
namespace Go.Proofs.Ytnahlemchajfdaa
/- THE CELL 'sum', in the pinned program and in every row, IS THE sha256 OF THE DUMP (.gsa) THAT YtnahlemchajfdaaProg.lean LOADS. Nothing in Lean hashes anything: it is a label: what it is worth is what the hold of that sum in a sandbox is worth. -/
noncomputable def Try.pinned : Pinned := { name := "ytnahlemchajfdaa", sum := "ce3a222135040a4ab376c9e9fa6336ac3142475f30da17df35dc65cc3f40ac63", checked := Try.checked }
namespace Rows
def none {H : Type} : Left H := { results := [], args := [] }

/-- 'laws.FnExactClockAfter': WHATEVER THE INPUT: true; the input reads as it did. -/
def fnExactClockAfterSpec : ChangeSpec := { name := "fnExactClockAfter", fn := fun _ => fun
  | [d1, d2] => { results := [.lit (.bool true)], args := [d1, d2] }
  | _ => none }
def fnExactClockAfterRow : OpenClaim := { program := "ytnahlemchajfdaa", sum := "ce3a222135040a4ab376c9e9fa6336ac3142475f30da17df35dc65cc3f40ac63", func := "loop.example/g01208/laws.FnExactClockAfter", spec := "fnExactClockAfter", unfollowed := true, recurses := true, leaving := true, apart := false }
def FnExactClockAfterSaid : Prop := fnExactClockAfterRow.holds Try.pinned (OpenSpec.ofChange fnExactClockAfterSpec)

/-- ITS FALSE NEIGHBOUR: 'it returns false'. Refute it at one input. -/
def fnExactClockAfterWrong : ChangeSpec := { name := "fnExactClockAfter", fn := fun _ => fun
  | [d1, d2] => { results := [.lit (.bool false)], args := [d1, d2] }
  | _ => none }
def FnExactClockAfterWrongFalsely : Prop := fnExactClockAfterRow.holds Try.pinned (OpenSpec.ofChange fnExactClockAfterWrong)

/-- 'laws.FnExactLevelsOfClock': WHATEVER THE INPUT: true; the input reads as it did. -/
def fnExactLevelsOfClockSpec : ChangeSpec := { name := "fnExactLevelsOfClock", fn := fun _ => fun
  | [d] => { results := [.lit (.bool true)], args := [d] }
  | _ => none }
def fnExactLevelsOfClockRow : OpenClaim := { program := "ytnahlemchajfdaa", sum := "ce3a222135040a4ab376c9e9fa6336ac3142475f30da17df35dc65cc3f40ac63", func := "loop.example/g01208/laws.FnExactLevelsOfClock", spec := "fnExactLevelsOfClock", unfollowed := true, recurses := true, leaving := true, apart := false }
def FnExactLevelsOfClockSaid : Prop := fnExactLevelsOfClockRow.holds Try.pinned (OpenSpec.ofChange fnExactLevelsOfClockSpec)

/-- ITS FALSE NEIGHBOUR: 'it returns false'. Refute it at one input. -/
def fnExactLevelsOfClockWrong : ChangeSpec := { name := "fnExactLevelsOfClock", fn := fun _ => fun
  | [d] => { results := [.lit (.bool false)], args := [d] }
  | _ => none }
def FnExactLevelsOfClockWrongFalsely : Prop := fnExactLevelsOfClockRow.holds Try.pinned (OpenSpec.ofChange fnExactLevelsOfClockWrong)

/-- 'laws.FnExactTimeToEmpty': WHATEVER THE INPUT: true; the input reads as it did. -/
def fnExactTimeToEmptySpec : ChangeSpec := { name := "fnExactTimeToEmpty", fn := fun _ => fun
  | [d] => { results := [.lit (.bool true)], args := [d] }
  | _ => none }
def fnExactTimeToEmptyRow : OpenClaim := { program := "ytnahlemchajfdaa", sum := "ce3a222135040a4ab376c9e9fa6336ac3142475f30da17df35dc65cc3f40ac63", func := "loop.example/g01208/laws.FnExactTimeToEmpty", spec := "fnExactTimeToEmpty", unfollowed := true, recurses := true, leaving := true, apart := false }
def FnExactTimeToEmptySaid : Prop := fnExactTimeToEmptyRow.holds Try.pinned (OpenSpec.ofChange fnExactTimeToEmptySpec)

/-- ITS FALSE NEIGHBOUR: 'it returns false'. Refute it at one input. -/
def fnExactTimeToEmptyWrong : ChangeSpec := { name := "fnExactTimeToEmpty", fn := fun _ => fun
  | [d] => { results := [.lit (.bool false)], args := [d] }
  | _ => none }
def FnExactTimeToEmptyWrongFalsely : Prop := fnExactTimeToEmptyRow.holds Try.pinned (OpenSpec.ofChange fnExactTimeToEmptyWrong)

/-- 'laws.FnExactTimeOfLevel': WHATEVER THE INPUT: true; the input reads as it did. -/
def fnExactTimeOfLevelSpec : ChangeSpec := { name := "fnExactTimeOfLevel", fn := fun _ => fun
  | [d1, d2] => { results := [.lit (.bool true)], args := [d1, d2] }
  | _ => none }
def fnExactTimeOfLevelRow : OpenClaim := { program := "ytnahlemchajfdaa", sum := "ce3a222135040a4ab376c9e9fa6336ac3142475f30da17df35dc65cc3f40ac63", func := "loop.example/g01208/laws.FnExactTimeOfLevel", spec := "fnExactTimeOfLevel", unfollowed := true, recurses := true, leaving := true, apart := false }
def FnExactTimeOfLevelSaid : Prop := fnExactTimeOfLevelRow.holds Try.pinned (OpenSpec.ofChange fnExactTimeOfLevelSpec)

/-- ITS FALSE NEIGHBOUR: 'it returns false'. Refute it at one input. -/
def fnExactTimeOfLevelWrong : ChangeSpec := { name := "fnExactTimeOfLevel", fn := fun _ => fun
  | [d1, d2] => { results := [.lit (.bool false)], args := [d1, d2] }
  | _ => none }
def FnExactTimeOfLevelWrongFalsely : Prop := fnExactTimeOfLevelRow.holds Try.pinned (OpenSpec.ofChange fnExactTimeOfLevelWrong)

/-- 'laws.FnExactMarksOf': WHATEVER THE INPUT: true; the input reads as it did. -/
def fnExactMarksOfSpec : ChangeSpec := { name := "fnExactMarksOf", fn := fun _ => fun
  | [d1, d2] => { results := [.lit (.bool true)], args := [d1, d2] }
  | _ => none }
def fnExactMarksOfRow : OpenClaim := { program := "ytnahlemchajfdaa", sum := "ce3a222135040a4ab376c9e9fa6336ac3142475f30da17df35dc65cc3f40ac63", func := "loop.example/g01208/laws.FnExactMarksOf", spec := "fnExactMarksOf", unfollowed := true, recurses := true, leaving := true, apart := false }
def FnExactMarksOfSaid : Prop := fnExactMarksOfRow.holds Try.pinned (OpenSpec.ofChange fnExactMarksOfSpec)

/-- ITS FALSE NEIGHBOUR: 'it returns false'. Refute it at one input. -/
def fnExactMarksOfWrong : ChangeSpec := { name := "fnExactMarksOf", fn := fun _ => fun
  | [d1, d2] => { results := [.lit (.bool false)], args := [d1, d2] }
  | _ => none }
def FnExactMarksOfWrongFalsely : Prop := fnExactMarksOfRow.holds Try.pinned (OpenSpec.ofChange fnExactMarksOfWrong)

/-- 'laws.FnExactFirstMeeting': WHATEVER THE INPUT: true; the input reads as it did. -/
def fnExactFirstMeetingSpec : ChangeSpec := { name := "fnExactFirstMeeting", fn := fun _ => fun
  | [d1, d2] => { results := [.lit (.bool true)], args := [d1, d2] }
  | _ => none }
def fnExactFirstMeetingRow : OpenClaim := { program := "ytnahlemchajfdaa", sum := "ce3a222135040a4ab376c9e9fa6336ac3142475f30da17df35dc65cc3f40ac63", func := "loop.example/g01208/laws.FnExactFirstMeeting", spec := "fnExactFirstMeeting", unfollowed := true, recurses := true, leaving := true, apart := false }
def FnExactFirstMeetingSaid : Prop := fnExactFirstMeetingRow.holds Try.pinned (OpenSpec.ofChange fnExactFirstMeetingSpec)

/-- ITS FALSE NEIGHBOUR: 'it returns false'. Refute it at one input. -/
def fnExactFirstMeetingWrong : ChangeSpec := { name := "fnExactFirstMeeting", fn := fun _ => fun
  | [d1, d2] => { results := [.lit (.bool false)], args := [d1, d2] }
  | _ => none }
def FnExactFirstMeetingWrongFalsely : Prop := fnExactFirstMeetingRow.holds Try.pinned (OpenSpec.ofChange fnExactFirstMeetingWrong)

/- THE SECOND FORM. 'bulk': how many values and letters a reading holds, each counted each time it is reached (what is shared counts as often as it is met; a slice's spare places count too). A statement '..UptoSaid' is the law's where the arguments, and the package variables that the reading takes, are together of bulk at most 1048576: NARROWER than '..Said'. Prove '..Said' where nothing that the law and all that it calls make is longer than what came in: it says more and counts as full. Else prove '..UptoSaid'. A law counts once. -/
mutual
def uptoBulk {H : Type} : DataW H → Nat
  | .lit (.string bytes) => bytes.length + 1
  | .lit _ => 1
  | .nil => 1
  | .ptr d => uptoBulk d + 1
  | .slice elems spare => uptoBulkAll elems + uptoBulkAll spare + 1
  | .agg parts => uptoBulkAll parts + 1
  | .iface _ d => uptoBulk d + 1
  | .map entries => uptoBulkEntries entries + 1
  | .held _ => 1
def uptoBulkAll {H : Type} : List (DataW H) → Nat
  | [] => 0
  | d :: r => uptoBulk d + uptoBulkAll r
def uptoBulkEntries {H : Type} : List (Lit × DataW H) → Nat
  | [] => 0
  | x :: r => uptoBulkEntry x + uptoBulkEntries r
def uptoBulkEntry {H : Type} : Lit × DataW H → Nat
  | (.string bytes, d) => bytes.length + uptoBulk d + 1
  | (_, d) => uptoBulk d + 1
 end
def uptoSmall : (H : Type) → List (DataW H) → Bool := fun _ ds => decide (uptoBulkAll ds ≤ 1048576)
def OpenSpec.upto (s : _root_.Go.ChangeSpec) : _root_.Go.OpenSpec := { _root_.Go.OpenSpec.ofChange s with cond := some uptoSmall }

/-- 'laws.FnExactClockAfter', WHERE WHAT IT READS IS OF BULK AT MOST 1048576: true; the input reads as it did. -/
def fnExactClockAfterUptoRow : OpenClaim := { program := "ytnahlemchajfdaa", sum := "ce3a222135040a4ab376c9e9fa6336ac3142475f30da17df35dc65cc3f40ac63", func := "loop.example/g01208/laws.FnExactClockAfter", spec := "fnExactClockAfter", unfollowed := true, recurses := true, leaving := true, apart := false, narrowed := true }
def FnExactClockAfterUptoSaid : Prop := fnExactClockAfterUptoRow.holds Try.pinned (OpenSpec.upto fnExactClockAfterSpec)

/-- 'laws.FnExactLevelsOfClock', WHERE WHAT IT READS IS OF BULK AT MOST 1048576: true; the input reads as it did. -/
def fnExactLevelsOfClockUptoRow : OpenClaim := { program := "ytnahlemchajfdaa", sum := "ce3a222135040a4ab376c9e9fa6336ac3142475f30da17df35dc65cc3f40ac63", func := "loop.example/g01208/laws.FnExactLevelsOfClock", spec := "fnExactLevelsOfClock", unfollowed := true, recurses := true, leaving := true, apart := false, narrowed := true }
def FnExactLevelsOfClockUptoSaid : Prop := fnExactLevelsOfClockUptoRow.holds Try.pinned (OpenSpec.upto fnExactLevelsOfClockSpec)

/-- 'laws.FnExactTimeToEmpty', WHERE WHAT IT READS IS OF BULK AT MOST 1048576: true; the input reads as it did. -/
def fnExactTimeToEmptyUptoRow : OpenClaim := { program := "ytnahlemchajfdaa", sum := "ce3a222135040a4ab376c9e9fa6336ac3142475f30da17df35dc65cc3f40ac63", func := "loop.example/g01208/laws.FnExactTimeToEmpty", spec := "fnExactTimeToEmpty", unfollowed := true, recurses := true, leaving := true, apart := false, narrowed := true }
def FnExactTimeToEmptyUptoSaid : Prop := fnExactTimeToEmptyUptoRow.holds Try.pinned (OpenSpec.upto fnExactTimeToEmptySpec)

/-- 'laws.FnExactTimeOfLevel', WHERE WHAT IT READS IS OF BULK AT MOST 1048576: true; the input reads as it did. -/
def fnExactTimeOfLevelUptoRow : OpenClaim := { program := "ytnahlemchajfdaa", sum := "ce3a222135040a4ab376c9e9fa6336ac3142475f30da17df35dc65cc3f40ac63", func := "loop.example/g01208/laws.FnExactTimeOfLevel", spec := "fnExactTimeOfLevel", unfollowed := true, recurses := true, leaving := true, apart := false, narrowed := true }
def FnExactTimeOfLevelUptoSaid : Prop := fnExactTimeOfLevelUptoRow.holds Try.pinned (OpenSpec.upto fnExactTimeOfLevelSpec)

/-- 'laws.FnExactMarksOf', WHERE WHAT IT READS IS OF BULK AT MOST 1048576: true; the input reads as it did. -/
def fnExactMarksOfUptoRow : OpenClaim := { program := "ytnahlemchajfdaa", sum := "ce3a222135040a4ab376c9e9fa6336ac3142475f30da17df35dc65cc3f40ac63", func := "loop.example/g01208/laws.FnExactMarksOf", spec := "fnExactMarksOf", unfollowed := true, recurses := true, leaving := true, apart := false, narrowed := true }
def FnExactMarksOfUptoSaid : Prop := fnExactMarksOfUptoRow.holds Try.pinned (OpenSpec.upto fnExactMarksOfSpec)

/-- 'laws.FnExactFirstMeeting', WHERE WHAT IT READS IS OF BULK AT MOST 1048576: true; the input reads as it did. -/
def fnExactFirstMeetingUptoRow : OpenClaim := { program := "ytnahlemchajfdaa", sum := "ce3a222135040a4ab376c9e9fa6336ac3142475f30da17df35dc65cc3f40ac63", func := "loop.example/g01208/laws.FnExactFirstMeeting", spec := "fnExactFirstMeeting", unfollowed := true, recurses := true, leaving := true, apart := false, narrowed := true }
def FnExactFirstMeetingUptoSaid : Prop := fnExactFirstMeetingUptoRow.holds Try.pinned (OpenSpec.upto fnExactFirstMeetingSpec)

end Rows
end Go.Proofs.Ytnahlemchajfdaa
