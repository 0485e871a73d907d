/-
  No cell of these rows narrows 'for every input' (looked for: loops, veiled, ifaces, maps, wideKeys, modest, calm, conditions, laid).
  DERIVED. THE GIVEN ROWS OF THIS SEAT. 10 by the template 'for every input the law returns true; each argument reads behind the call as it read before'; 0 by the template 'total and deterministic' (their statements: YtidklnpohgmnpaaTotals.lean).
  GIVEN WITH THE SEED: the statements are not yours to turn. If you find one false, say at which input.
  Laid BY PROGRAM, IN A SANDBOX (cutbox-rows.mjs): the forced cells as the released guide's own fill.sh prints them over the translation e8800ea2812d7348… (all of the seat's roots in one cut). By AI agents, Wed Nov 11 2026. No macro, syntax, notation, axiom, sorry.
-/
import Derived.Test.YtidklnpohgmnpaaChecked
import GoSem.Claim
import GoSem.ClaimJoined
import GoSem.ClaimMapViews
import Derived.JoinedTies
import Derived.KernelRfl
namespace Go.Proofs.Ytidklnpohgmnpaa
/- THE CELL 'sum', in the pinned program and in every row, IS THE sha256 OF THE DUMP (.gsa) THAT YtidklnpohgmnpaaProg.lean LOADS. Nothing in Lean hashes anything: it is a label: what it is worth is what the hold of that sum in a sandbox is worth. -/
noncomputable def Try.pinned : Pinned := { name := "ytidklnpohgmnpaa", sum := "e8800ea2812d73482cd1492cb55f32d35482f1dd058ca49ffc4bde93adb95e61", checked := Try.checked }
namespace Rows
def none {H : Type} : Left H := { results := [], args := [] }

/-- 'laws.FnExactIsRatio': WHATEVER THE INPUT: true; the input reads as it did. -/
def fnExactIsRatioSpec : ChangeSpec := { name := "fnExactIsRatio", fn := fun _ => fun
  | [d] => { results := [.lit (.bool true)], args := [d] }
  | _ => none }
def fnExactIsRatioRow : OpenClaim := { program := "ytidklnpohgmnpaa", sum := "e8800ea2812d73482cd1492cb55f32d35482f1dd058ca49ffc4bde93adb95e61", func := "loop.example/g01208/laws.FnExactIsRatio", spec := "fnExactIsRatio", apart := false }
def FnExactIsRatioSaid : Prop := fnExactIsRatioRow.holds Try.pinned (OpenSpec.ofChange fnExactIsRatioSpec)

/-- ITS FALSE NEIGHBOUR: 'it returns false'. Refute it at one input. -/
def fnExactIsRatioWrong : ChangeSpec := { name := "fnExactIsRatio", fn := fun _ => fun
  | [d] => { results := [.lit (.bool false)], args := [d] }
  | _ => none }
def FnExactIsRatioWrongFalsely : Prop := fnExactIsRatioRow.holds Try.pinned (OpenSpec.ofChange fnExactIsRatioWrong)

/-- 'laws.FnExactIsBrine': WHATEVER THE INPUT: true; the input reads as it did. -/
def fnExactIsBrineSpec : ChangeSpec := { name := "fnExactIsBrine", fn := fun _ => fun
  | [d] => { results := [.lit (.bool true)], args := [d] }
  | _ => none }
def fnExactIsBrineRow : OpenClaim := { program := "ytidklnpohgmnpaa", sum := "e8800ea2812d73482cd1492cb55f32d35482f1dd058ca49ffc4bde93adb95e61", func := "loop.example/g01208/laws.FnExactIsBrine", spec := "fnExactIsBrine", apart := false }
def FnExactIsBrineSaid : Prop := fnExactIsBrineRow.holds Try.pinned (OpenSpec.ofChange fnExactIsBrineSpec)

/-- ITS FALSE NEIGHBOUR: 'it returns false'. Refute it at one input. -/
def fnExactIsBrineWrong : ChangeSpec := { name := "fnExactIsBrine", fn := fun _ => fun
  | [d] => { results := [.lit (.bool false)], args := [d] }
  | _ => none }
def FnExactIsBrineWrongFalsely : Prop := fnExactIsBrineRow.holds Try.pinned (OpenSpec.ofChange fnExactIsBrineWrong)

/-- 'laws.FnExactShareOf': WHATEVER THE INPUT: true; the input reads as it did. -/
def fnExactShareOfSpec : ChangeSpec := { name := "fnExactShareOf", fn := fun _ => fun
  | [d1, d2] => { results := [.lit (.bool true)], args := [d1, d2] }
  | _ => none }
def fnExactShareOfRow : OpenClaim := { program := "ytidklnpohgmnpaa", sum := "e8800ea2812d73482cd1492cb55f32d35482f1dd058ca49ffc4bde93adb95e61", func := "loop.example/g01208/laws.FnExactShareOf", spec := "fnExactShareOf", apart := false }
def FnExactShareOfSaid : Prop := fnExactShareOfRow.holds Try.pinned (OpenSpec.ofChange fnExactShareOfSpec)

/-- ITS FALSE NEIGHBOUR: 'it returns false'. Refute it at one input. -/
def fnExactShareOfWrong : ChangeSpec := { name := "fnExactShareOf", fn := fun _ => fun
  | [d1, d2] => { results := [.lit (.bool false)], args := [d1, d2] }
  | _ => none }
def FnExactShareOfWrongFalsely : Prop := fnExactShareOfRow.holds Try.pinned (OpenSpec.ofChange fnExactShareOfWrong)

/-- 'laws.FnExactTotalSalt': WHATEVER THE INPUT: true; the input reads as it did. -/
def fnExactTotalSaltSpec : ChangeSpec := { name := "fnExactTotalSalt", fn := fun _ => fun
  | [d] => { results := [.lit (.bool true)], args := [d] }
  | _ => none }
def fnExactTotalSaltRow : OpenClaim := { program := "ytidklnpohgmnpaa", sum := "e8800ea2812d73482cd1492cb55f32d35482f1dd058ca49ffc4bde93adb95e61", func := "loop.example/g01208/laws.FnExactTotalSalt", spec := "fnExactTotalSalt", apart := false }
def FnExactTotalSaltSaid : Prop := fnExactTotalSaltRow.holds Try.pinned (OpenSpec.ofChange fnExactTotalSaltSpec)

/-- ITS FALSE NEIGHBOUR: 'it returns false'. Refute it at one input. -/
def fnExactTotalSaltWrong : ChangeSpec := { name := "fnExactTotalSalt", fn := fun _ => fun
  | [d] => { results := [.lit (.bool false)], args := [d] }
  | _ => none }
def FnExactTotalSaltWrongFalsely : Prop := fnExactTotalSaltRow.holds Try.pinned (OpenSpec.ofChange fnExactTotalSaltWrong)

/-- 'laws.FnExactSharesOf': WHATEVER THE INPUT: true; the input reads as it did. -/
def fnExactSharesOfSpec : ChangeSpec := { name := "fnExactSharesOf", fn := fun _ => fun
  | [d] => { results := [.lit (.bool true)], args := [d] }
  | _ => none }
def fnExactSharesOfRow : OpenClaim := { program := "ytidklnpohgmnpaa", sum := "e8800ea2812d73482cd1492cb55f32d35482f1dd058ca49ffc4bde93adb95e61", func := "loop.example/g01208/laws.FnExactSharesOf", spec := "fnExactSharesOf", apart := false }
def FnExactSharesOfSaid : Prop := fnExactSharesOfRow.holds Try.pinned (OpenSpec.ofChange fnExactSharesOfSpec)

/-- ITS FALSE NEIGHBOUR: 'it returns false'. Refute it at one input. -/
def fnExactSharesOfWrong : ChangeSpec := { name := "fnExactSharesOf", fn := fun _ => fun
  | [d] => { results := [.lit (.bool false)], args := [d] }
  | _ => none }
def FnExactSharesOfWrongFalsely : Prop := fnExactSharesOfRow.holds Try.pinned (OpenSpec.ofChange fnExactSharesOfWrong)

/-- 'laws.FnExactAreEven': WHATEVER THE INPUT: true; the input reads as it did. -/
def fnExactAreEvenSpec : ChangeSpec := { name := "fnExactAreEven", fn := fun _ => fun
  | [d] => { results := [.lit (.bool true)], args := [d] }
  | _ => none }
def fnExactAreEvenRow : OpenClaim := { program := "ytidklnpohgmnpaa", sum := "e8800ea2812d73482cd1492cb55f32d35482f1dd058ca49ffc4bde93adb95e61", func := "loop.example/g01208/laws.FnExactAreEven", spec := "fnExactAreEven", apart := false }
def FnExactAreEvenSaid : Prop := fnExactAreEvenRow.holds Try.pinned (OpenSpec.ofChange fnExactAreEvenSpec)

/-- ITS FALSE NEIGHBOUR: 'it returns false'. Refute it at one input. -/
def fnExactAreEvenWrong : ChangeSpec := { name := "fnExactAreEven", fn := fun _ => fun
  | [d] => { results := [.lit (.bool false)], args := [d] }
  | _ => none }
def FnExactAreEvenWrongFalsely : Prop := fnExactAreEvenRow.holds Try.pinned (OpenSpec.ofChange fnExactAreEvenWrong)

/-- 'laws.FnExactMixedShare': WHATEVER THE INPUT: true; the input reads as it did. -/
def fnExactMixedShareSpec : ChangeSpec := { name := "fnExactMixedShare", fn := fun _ => fun
  | [d] => { results := [.lit (.bool true)], args := [d] }
  | _ => none }
def fnExactMixedShareRow : OpenClaim := { program := "ytidklnpohgmnpaa", sum := "e8800ea2812d73482cd1492cb55f32d35482f1dd058ca49ffc4bde93adb95e61", func := "loop.example/g01208/laws.FnExactMixedShare", spec := "fnExactMixedShare", apart := false }
def FnExactMixedShareSaid : Prop := fnExactMixedShareRow.holds Try.pinned (OpenSpec.ofChange fnExactMixedShareSpec)

/-- ITS FALSE NEIGHBOUR: 'it returns false'. Refute it at one input. -/
def fnExactMixedShareWrong : ChangeSpec := { name := "fnExactMixedShare", fn := fun _ => fun
  | [d] => { results := [.lit (.bool false)], args := [d] }
  | _ => none }
def FnExactMixedShareWrongFalsely : Prop := fnExactMixedShareRow.holds Try.pinned (OpenSpec.ofChange fnExactMixedShareWrong)

/-- 'laws.FnExactThinShare': WHATEVER THE INPUT: true; the input reads as it did. -/
def fnExactThinShareSpec : ChangeSpec := { name := "fnExactThinShare", fn := fun _ => fun
  | [d1, d2, d3] => { results := [.lit (.bool true)], args := [d1, d2, d3] }
  | _ => none }
def fnExactThinShareRow : OpenClaim := { program := "ytidklnpohgmnpaa", sum := "e8800ea2812d73482cd1492cb55f32d35482f1dd058ca49ffc4bde93adb95e61", func := "loop.example/g01208/laws.FnExactThinShare", spec := "fnExactThinShare", apart := false }
def FnExactThinShareSaid : Prop := fnExactThinShareRow.holds Try.pinned (OpenSpec.ofChange fnExactThinShareSpec)

/-- ITS FALSE NEIGHBOUR: 'it returns false'. Refute it at one input. -/
def fnExactThinShareWrong : ChangeSpec := { name := "fnExactThinShare", fn := fun _ => fun
  | [d1, d2, d3] => { results := [.lit (.bool false)], args := [d1, d2, d3] }
  | _ => none }
def FnExactThinShareWrongFalsely : Prop := fnExactThinShareRow.holds Try.pinned (OpenSpec.ofChange fnExactThinShareWrong)

/-- 'laws.FnExactTimesToThin': WHATEVER THE INPUT: true; the input reads as it did. -/
def fnExactTimesToThinSpec : ChangeSpec := { name := "fnExactTimesToThin", fn := fun _ => fun
  | [d1, d2, d3] => { results := [.lit (.bool true)], args := [d1, d2, d3] }
  | _ => none }
def fnExactTimesToThinRow : OpenClaim := { program := "ytidklnpohgmnpaa", sum := "e8800ea2812d73482cd1492cb55f32d35482f1dd058ca49ffc4bde93adb95e61", func := "loop.example/g01208/laws.FnExactTimesToThin", spec := "fnExactTimesToThin", apart := false }
def FnExactTimesToThinSaid : Prop := fnExactTimesToThinRow.holds Try.pinned (OpenSpec.ofChange fnExactTimesToThinSpec)

/-- ITS FALSE NEIGHBOUR: 'it returns false'. Refute it at one input. -/
def fnExactTimesToThinWrong : ChangeSpec := { name := "fnExactTimesToThin", fn := fun _ => fun
  | [d1, d2, d3] => { results := [.lit (.bool false)], args := [d1, d2, d3] }
  | _ => none }
def FnExactTimesToThinWrongFalsely : Prop := fnExactTimesToThinRow.holds Try.pinned (OpenSpec.ofChange fnExactTimesToThinWrong)

/-- 'laws.FnExactBlendAmounts': WHATEVER THE INPUT: true; the input reads as it did. -/
def fnExactBlendAmountsSpec : ChangeSpec := { name := "fnExactBlendAmounts", fn := fun _ => fun
  | [d1, d2, d3] => { results := [.lit (.bool true)], args := [d1, d2, d3] }
  | _ => none }
def fnExactBlendAmountsRow : OpenClaim := { program := "ytidklnpohgmnpaa", sum := "e8800ea2812d73482cd1492cb55f32d35482f1dd058ca49ffc4bde93adb95e61", func := "loop.example/g01208/laws.FnExactBlendAmounts", spec := "fnExactBlendAmounts", apart := false }
def FnExactBlendAmountsSaid : Prop := fnExactBlendAmountsRow.holds Try.pinned (OpenSpec.ofChange fnExactBlendAmountsSpec)

/-- ITS FALSE NEIGHBOUR: 'it returns false'. Refute it at one input. -/
def fnExactBlendAmountsWrong : ChangeSpec := { name := "fnExactBlendAmounts", fn := fun _ => fun
  | [d1, d2, d3] => { results := [.lit (.bool false)], args := [d1, d2, d3] }
  | _ => none }
def FnExactBlendAmountsWrongFalsely : Prop := fnExactBlendAmountsRow.holds Try.pinned (OpenSpec.ofChange fnExactBlendAmountsWrong)

/- THE SECOND FORM. 'bulk': how many values and letters a reading holds, each counted each time it is reached (what is shared counts as often as it is met; a slice's spare places count too). A statement '..UptoSaid' is the law's where the arguments, and the package variables that the reading takes, are together of bulk at most 1048576: NARROWER than '..Said'. Prove '..Said' where nothing that the law and all that it calls make is longer than what came in: it says more and counts as full. Else prove '..UptoSaid'. A law counts once. -/
mutual
def uptoBulk {H : Type} : DataW H → Nat
  | .lit (.string bytes) => bytes.length + 1
  | .lit _ => 1
  | .nil => 1
  | .ptr d => uptoBulk d + 1
  | .slice elems spare => uptoBulkAll elems + uptoBulkAll spare + 1
  | .agg parts => uptoBulkAll parts + 1
  | .iface _ d => uptoBulk d + 1
  | .map entries => uptoBulkEntries entries + 1
  | .held _ => 1
def uptoBulkAll {H : Type} : List (DataW H) → Nat
  | [] => 0
  | d :: r => uptoBulk d + uptoBulkAll r
def uptoBulkEntries {H : Type} : List (Lit × DataW H) → Nat
  | [] => 0
  | x :: r => uptoBulkEntry x + uptoBulkEntries r
def uptoBulkEntry {H : Type} : Lit × DataW H → Nat
  | (.string bytes, d) => bytes.length + uptoBulk d + 1
  | (_, d) => uptoBulk d + 1
 end
def uptoSmall : (H : Type) → List (DataW H) → Bool := fun _ ds => decide (uptoBulkAll ds ≤ 1048576)
def OpenSpec.upto (s : _root_.Go.ChangeSpec) : _root_.Go.OpenSpec := { _root_.Go.OpenSpec.ofChange s with cond := some uptoSmall }

/-- 'laws.FnExactIsRatio', WHERE WHAT IT READS IS OF BULK AT MOST 1048576: true; the input reads as it did. -/
def fnExactIsRatioUptoRow : OpenClaim := { program := "ytidklnpohgmnpaa", sum := "e8800ea2812d73482cd1492cb55f32d35482f1dd058ca49ffc4bde93adb95e61", func := "loop.example/g01208/laws.FnExactIsRatio", spec := "fnExactIsRatio", apart := false, narrowed := true }
def FnExactIsRatioUptoSaid : Prop := fnExactIsRatioUptoRow.holds Try.pinned (OpenSpec.upto fnExactIsRatioSpec)

/-- 'laws.FnExactIsBrine', WHERE WHAT IT READS IS OF BULK AT MOST 1048576: true; the input reads as it did. -/
def fnExactIsBrineUptoRow : OpenClaim := { program := "ytidklnpohgmnpaa", sum := "e8800ea2812d73482cd1492cb55f32d35482f1dd058ca49ffc4bde93adb95e61", func := "loop.example/g01208/laws.FnExactIsBrine", spec := "fnExactIsBrine", apart := false, narrowed := true }
def FnExactIsBrineUptoSaid : Prop := fnExactIsBrineUptoRow.holds Try.pinned (OpenSpec.upto fnExactIsBrineSpec)

/-- 'laws.FnExactShareOf', WHERE WHAT IT READS IS OF BULK AT MOST 1048576: true; the input reads as it did. -/
def fnExactShareOfUptoRow : OpenClaim := { program := "ytidklnpohgmnpaa", sum := "e8800ea2812d73482cd1492cb55f32d35482f1dd058ca49ffc4bde93adb95e61", func := "loop.example/g01208/laws.FnExactShareOf", spec := "fnExactShareOf", apart := false, narrowed := true }
def FnExactShareOfUptoSaid : Prop := fnExactShareOfUptoRow.holds Try.pinned (OpenSpec.upto fnExactShareOfSpec)

/-- 'laws.FnExactTotalSalt', WHERE WHAT IT READS IS OF BULK AT MOST 1048576: true; the input reads as it did. -/
def fnExactTotalSaltUptoRow : OpenClaim := { program := "ytidklnpohgmnpaa", sum := "e8800ea2812d73482cd1492cb55f32d35482f1dd058ca49ffc4bde93adb95e61", func := "loop.example/g01208/laws.FnExactTotalSalt", spec := "fnExactTotalSalt", apart := false, narrowed := true }
def FnExactTotalSaltUptoSaid : Prop := fnExactTotalSaltUptoRow.holds Try.pinned (OpenSpec.upto fnExactTotalSaltSpec)

/-- 'laws.FnExactSharesOf', WHERE WHAT IT READS IS OF BULK AT MOST 1048576: true; the input reads as it did. -/
def fnExactSharesOfUptoRow : OpenClaim := { program := "ytidklnpohgmnpaa", sum := "e8800ea2812d73482cd1492cb55f32d35482f1dd058ca49ffc4bde93adb95e61", func := "loop.example/g01208/laws.FnExactSharesOf", spec := "fnExactSharesOf", apart := false, narrowed := true }
def FnExactSharesOfUptoSaid : Prop := fnExactSharesOfUptoRow.holds Try.pinned (OpenSpec.upto fnExactSharesOfSpec)

/-- 'laws.FnExactAreEven', WHERE WHAT IT READS IS OF BULK AT MOST 1048576: true; the input reads as it did. -/
def fnExactAreEvenUptoRow : OpenClaim := { program := "ytidklnpohgmnpaa", sum := "e8800ea2812d73482cd1492cb55f32d35482f1dd058ca49ffc4bde93adb95e61", func := "loop.example/g01208/laws.FnExactAreEven", spec := "fnExactAreEven", apart := false, narrowed := true }
def FnExactAreEvenUptoSaid : Prop := fnExactAreEvenUptoRow.holds Try.pinned (OpenSpec.upto fnExactAreEvenSpec)

/-- 'laws.FnExactMixedShare', WHERE WHAT IT READS IS OF BULK AT MOST 1048576: true; the input reads as it did. -/
def fnExactMixedShareUptoRow : OpenClaim := { program := "ytidklnpohgmnpaa", sum := "e8800ea2812d73482cd1492cb55f32d35482f1dd058ca49ffc4bde93adb95e61", func := "loop.example/g01208/laws.FnExactMixedShare", spec := "fnExactMixedShare", apart := false, narrowed := true }
def FnExactMixedShareUptoSaid : Prop := fnExactMixedShareUptoRow.holds Try.pinned (OpenSpec.upto fnExactMixedShareSpec)

/-- 'laws.FnExactThinShare', WHERE WHAT IT READS IS OF BULK AT MOST 1048576: true; the input reads as it did. -/
def fnExactThinShareUptoRow : OpenClaim := { program := "ytidklnpohgmnpaa", sum := "e8800ea2812d73482cd1492cb55f32d35482f1dd058ca49ffc4bde93adb95e61", func := "loop.example/g01208/laws.FnExactThinShare", spec := "fnExactThinShare", apart := false, narrowed := true }
def FnExactThinShareUptoSaid : Prop := fnExactThinShareUptoRow.holds Try.pinned (OpenSpec.upto fnExactThinShareSpec)

/-- 'laws.FnExactTimesToThin', WHERE WHAT IT READS IS OF BULK AT MOST 1048576: true; the input reads as it did. -/
def fnExactTimesToThinUptoRow : OpenClaim := { program := "ytidklnpohgmnpaa", sum := "e8800ea2812d73482cd1492cb55f32d35482f1dd058ca49ffc4bde93adb95e61", func := "loop.example/g01208/laws.FnExactTimesToThin", spec := "fnExactTimesToThin", apart := false, narrowed := true }
def FnExactTimesToThinUptoSaid : Prop := fnExactTimesToThinUptoRow.holds Try.pinned (OpenSpec.upto fnExactTimesToThinSpec)

/-- 'laws.FnExactBlendAmounts', WHERE WHAT IT READS IS OF BULK AT MOST 1048576: true; the input reads as it did. -/
def fnExactBlendAmountsUptoRow : OpenClaim := { program := "ytidklnpohgmnpaa", sum := "e8800ea2812d73482cd1492cb55f32d35482f1dd058ca49ffc4bde93adb95e61", func := "loop.example/g01208/laws.FnExactBlendAmounts", spec := "fnExactBlendAmounts", apart := false, narrowed := true }
def FnExactBlendAmountsUptoSaid : Prop := fnExactBlendAmountsUptoRow.holds Try.pinned (OpenSpec.upto fnExactBlendAmountsSpec)

end Rows
end Go.Proofs.Ytidklnpohgmnpaa
