/-
  No cell of these rows narrows 'for every input' (looked for: loops, veiled, ifaces, maps, wideKeys, modest, calm, conditions, laid).
  DERIVED. THE GIVEN ROWS OF THIS SEAT. 9 by the template 'for every input the law returns true; each argument reads behind the call as it read before'; 0 by the template 'total and deterministic' (their statements: YtklfelbolblgfaaTotals.lean).
  GIVEN WITH THE SEED: the statements are not yours to turn. If you find one false, say at which input.
  Laid BY PROGRAM, IN A SANDBOX (cutbox-rows.mjs): the forced cells as the released guide's own fill.sh prints them over the translation 941729e05d6cfc91… (all of the seat's roots in one cut). By AI agents, Wed Nov 11 2026. No macro, syntax, notation, axiom, sorry.
-/
import Derived.Test.YtklfelbolblgfaaChecked
import GoSem.Claim
import GoSem.ClaimJoined
import GoSem.ClaimMapViews
import Derived.JoinedTies
import Derived.KernelRfl
namespace Go.Proofs.Ytklfelbolblgfaa
/- THE CELL 'sum', in the pinned program and in every row, IS THE sha256 OF THE DUMP (.gsa) THAT YtklfelbolblgfaaProg.lean LOADS. Nothing in Lean hashes anything: it is a label: what it is worth is what the hold of that sum in a sandbox is worth. -/
noncomputable def Try.pinned : Pinned := { name := "ytklfelbolblgfaa", sum := "941729e05d6cfc91205eca57eec3134d440ad09750eb6a2d1e57e6586f91ed31", checked := Try.checked }
namespace Rows
def none {H : Type} : Left H := { results := [], args := [] }

/-- 'laws.FnExactIsTank': WHATEVER THE INPUT: true; the input reads as it did. -/
def fnExactIsTankSpec : ChangeSpec := { name := "fnExactIsTank", fn := fun _ => fun
  | [d] => { results := [.lit (.bool true)], args := [d] }
  | _ => none }
def fnExactIsTankRow : OpenClaim := { program := "ytklfelbolblgfaa", sum := "941729e05d6cfc91205eca57eec3134d440ad09750eb6a2d1e57e6586f91ed31", func := "loop.example/g01208/laws.FnExactIsTank", spec := "fnExactIsTank", apart := false }
def FnExactIsTankSaid : Prop := fnExactIsTankRow.holds Try.pinned (OpenSpec.ofChange fnExactIsTankSpec)

/-- ITS FALSE NEIGHBOUR: 'it returns false'. Refute it at one input. -/
def fnExactIsTankWrong : ChangeSpec := { name := "fnExactIsTank", fn := fun _ => fun
  | [d] => { results := [.lit (.bool false)], args := [d] }
  | _ => none }
def FnExactIsTankWrongFalsely : Prop := fnExactIsTankRow.holds Try.pinned (OpenSpec.ofChange fnExactIsTankWrong)

/-- 'laws.FnExactLevelOf': WHATEVER THE INPUT: true; the input reads as it did. -/
def fnExactLevelOfSpec : ChangeSpec := { name := "fnExactLevelOf", fn := fun _ => fun
  | [d] => { results := [.lit (.bool true)], args := [d] }
  | _ => none }
def fnExactLevelOfRow : OpenClaim := { program := "ytklfelbolblgfaa", sum := "941729e05d6cfc91205eca57eec3134d440ad09750eb6a2d1e57e6586f91ed31", func := "loop.example/g01208/laws.FnExactLevelOf", spec := "fnExactLevelOf", apart := false }
def FnExactLevelOfSaid : Prop := fnExactLevelOfRow.holds Try.pinned (OpenSpec.ofChange fnExactLevelOfSpec)

/-- ITS FALSE NEIGHBOUR: 'it returns false'. Refute it at one input. -/
def fnExactLevelOfWrong : ChangeSpec := { name := "fnExactLevelOf", fn := fun _ => fun
  | [d] => { results := [.lit (.bool false)], args := [d] }
  | _ => none }
def FnExactLevelOfWrongFalsely : Prop := fnExactLevelOfRow.holds Try.pinned (OpenSpec.ofChange fnExactLevelOfWrong)

/-- 'laws.FnExactAreTanks': WHATEVER THE INPUT: true; the input reads as it did. -/
def fnExactAreTanksSpec : ChangeSpec := { name := "fnExactAreTanks", fn := fun _ => fun
  | [d] => { results := [.lit (.bool true)], args := [d] }
  | _ => none }
def fnExactAreTanksRow : OpenClaim := { program := "ytklfelbolblgfaa", sum := "941729e05d6cfc91205eca57eec3134d440ad09750eb6a2d1e57e6586f91ed31", func := "loop.example/g01208/laws.FnExactAreTanks", spec := "fnExactAreTanks", apart := false }
def FnExactAreTanksSaid : Prop := fnExactAreTanksRow.holds Try.pinned (OpenSpec.ofChange fnExactAreTanksSpec)

/-- ITS FALSE NEIGHBOUR: 'it returns false'. Refute it at one input. -/
def fnExactAreTanksWrong : ChangeSpec := { name := "fnExactAreTanks", fn := fun _ => fun
  | [d] => { results := [.lit (.bool false)], args := [d] }
  | _ => none }
def FnExactAreTanksWrongFalsely : Prop := fnExactAreTanksRow.holds Try.pinned (OpenSpec.ofChange fnExactAreTanksWrong)

/-- 'laws.FnExactWaterBelow': WHATEVER THE INPUT: true; the input reads as it did. -/
def fnExactWaterBelowSpec : ChangeSpec := { name := "fnExactWaterBelow", fn := fun _ => fun
  | [d1, d2] => { results := [.lit (.bool true)], args := [d1, d2] }
  | _ => none }
def fnExactWaterBelowRow : OpenClaim := { program := "ytklfelbolblgfaa", sum := "941729e05d6cfc91205eca57eec3134d440ad09750eb6a2d1e57e6586f91ed31", func := "loop.example/g01208/laws.FnExactWaterBelow", spec := "fnExactWaterBelow", unfollowed := true, recurses := true, apart := false }
def FnExactWaterBelowSaid : Prop := fnExactWaterBelowRow.holds Try.pinned (OpenSpec.ofChange fnExactWaterBelowSpec)

/-- ITS FALSE NEIGHBOUR: 'it returns false'. Refute it at one input. -/
def fnExactWaterBelowWrong : ChangeSpec := { name := "fnExactWaterBelow", fn := fun _ => fun
  | [d1, d2] => { results := [.lit (.bool false)], args := [d1, d2] }
  | _ => none }
def FnExactWaterBelowWrongFalsely : Prop := fnExactWaterBelowRow.holds Try.pinned (OpenSpec.ofChange fnExactWaterBelowWrong)

/-- 'laws.FnExactWaterForLevel': WHATEVER THE INPUT: true; the input reads as it did. -/
def fnExactWaterForLevelSpec : ChangeSpec := { name := "fnExactWaterForLevel", fn := fun _ => fun
  | [d1, d2] => { results := [.lit (.bool true)], args := [d1, d2] }
  | _ => none }
def fnExactWaterForLevelRow : OpenClaim := { program := "ytklfelbolblgfaa", sum := "941729e05d6cfc91205eca57eec3134d440ad09750eb6a2d1e57e6586f91ed31", func := "loop.example/g01208/laws.FnExactWaterForLevel", spec := "fnExactWaterForLevel", unfollowed := true, recurses := true, apart := false }
def FnExactWaterForLevelSaid : Prop := fnExactWaterForLevelRow.holds Try.pinned (OpenSpec.ofChange fnExactWaterForLevelSpec)

/-- ITS FALSE NEIGHBOUR: 'it returns false'. Refute it at one input. -/
def fnExactWaterForLevelWrong : ChangeSpec := { name := "fnExactWaterForLevel", fn := fun _ => fun
  | [d1, d2] => { results := [.lit (.bool false)], args := [d1, d2] }
  | _ => none }
def FnExactWaterForLevelWrongFalsely : Prop := fnExactWaterForLevelRow.holds Try.pinned (OpenSpec.ofChange fnExactWaterForLevelWrong)

/-- 'laws.FnExactAreJoins': WHATEVER THE INPUT: true; the input reads as it did. -/
def fnExactAreJoinsSpec : ChangeSpec := { name := "fnExactAreJoins", fn := fun _ => fun
  | [d1, d2] => { results := [.lit (.bool true)], args := [d1, d2] }
  | _ => none }
def fnExactAreJoinsRow : OpenClaim := { program := "ytklfelbolblgfaa", sum := "941729e05d6cfc91205eca57eec3134d440ad09750eb6a2d1e57e6586f91ed31", func := "loop.example/g01208/laws.FnExactAreJoins", spec := "fnExactAreJoins", apart := false }
def FnExactAreJoinsSaid : Prop := fnExactAreJoinsRow.holds Try.pinned (OpenSpec.ofChange fnExactAreJoinsSpec)

/-- ITS FALSE NEIGHBOUR: 'it returns false'. Refute it at one input. -/
def fnExactAreJoinsWrong : ChangeSpec := { name := "fnExactAreJoins", fn := fun _ => fun
  | [d1, d2] => { results := [.lit (.bool false)], args := [d1, d2] }
  | _ => none }
def FnExactAreJoinsWrongFalsely : Prop := fnExactAreJoinsRow.holds Try.pinned (OpenSpec.ofChange fnExactAreJoinsWrong)

/-- 'laws.FnExactGroupsOf': WHATEVER THE INPUT: true; the input reads as it did. -/
def fnExactGroupsOfSpec : ChangeSpec := { name := "fnExactGroupsOf", fn := fun _ => fun
  | [d1, d2] => { results := [.lit (.bool true)], args := [d1, d2] }
  | _ => none }
def fnExactGroupsOfRow : OpenClaim := { program := "ytklfelbolblgfaa", sum := "941729e05d6cfc91205eca57eec3134d440ad09750eb6a2d1e57e6586f91ed31", func := "loop.example/g01208/laws.FnExactGroupsOf", spec := "fnExactGroupsOf", apart := false }
def FnExactGroupsOfSaid : Prop := fnExactGroupsOfRow.holds Try.pinned (OpenSpec.ofChange fnExactGroupsOfSpec)

/-- ITS FALSE NEIGHBOUR: 'it returns false'. Refute it at one input. -/
def fnExactGroupsOfWrong : ChangeSpec := { name := "fnExactGroupsOf", fn := fun _ => fun
  | [d1, d2] => { results := [.lit (.bool false)], args := [d1, d2] }
  | _ => none }
def FnExactGroupsOfWrongFalsely : Prop := fnExactGroupsOfRow.holds Try.pinned (OpenSpec.ofChange fnExactGroupsOfWrong)

/-- 'laws.FnExactFloodOrder': WHATEVER THE INPUT: true; the input reads as it did. -/
def fnExactFloodOrderSpec : ChangeSpec := { name := "fnExactFloodOrder", fn := fun _ => fun
  | [d] => { results := [.lit (.bool true)], args := [d] }
  | _ => none }
def fnExactFloodOrderRow : OpenClaim := { program := "ytklfelbolblgfaa", sum := "941729e05d6cfc91205eca57eec3134d440ad09750eb6a2d1e57e6586f91ed31", func := "loop.example/g01208/laws.FnExactFloodOrder", spec := "fnExactFloodOrder", unfollowed := true, recurses := true, apart := false }
def FnExactFloodOrderSaid : Prop := fnExactFloodOrderRow.holds Try.pinned (OpenSpec.ofChange fnExactFloodOrderSpec)

/-- ITS FALSE NEIGHBOUR: 'it returns false'. Refute it at one input. -/
def fnExactFloodOrderWrong : ChangeSpec := { name := "fnExactFloodOrder", fn := fun _ => fun
  | [d] => { results := [.lit (.bool false)], args := [d] }
  | _ => none }
def FnExactFloodOrderWrongFalsely : Prop := fnExactFloodOrderRow.holds Try.pinned (OpenSpec.ofChange fnExactFloodOrderWrong)

/-- 'laws.FnExactAddRatios': WHATEVER THE INPUT: true; the input reads as it did. -/
def fnExactAddRatiosSpec : ChangeSpec := { name := "fnExactAddRatios", fn := fun _ => fun
  | [d1, d2] => { results := [.lit (.bool true)], args := [d1, d2] }
  | _ => none }
def fnExactAddRatiosRow : OpenClaim := { program := "ytklfelbolblgfaa", sum := "941729e05d6cfc91205eca57eec3134d440ad09750eb6a2d1e57e6586f91ed31", func := "loop.example/g01208/laws.FnExactAddRatios", spec := "fnExactAddRatios", apart := false }
def FnExactAddRatiosSaid : Prop := fnExactAddRatiosRow.holds Try.pinned (OpenSpec.ofChange fnExactAddRatiosSpec)

/-- ITS FALSE NEIGHBOUR: 'it returns false'. Refute it at one input. -/
def fnExactAddRatiosWrong : ChangeSpec := { name := "fnExactAddRatios", fn := fun _ => fun
  | [d1, d2] => { results := [.lit (.bool false)], args := [d1, d2] }
  | _ => none }
def FnExactAddRatiosWrongFalsely : Prop := fnExactAddRatiosRow.holds Try.pinned (OpenSpec.ofChange fnExactAddRatiosWrong)

/- THE SECOND FORM. 'bulk': how many values and letters a reading holds, each counted each time it is reached (what is shared counts as often as it is met; a slice's spare places count too). A statement '..UptoSaid' is the law's where the arguments, and the package variables that the reading takes, are together of bulk at most 1048576: NARROWER than '..Said'. Prove '..Said' where nothing that the law and all that it calls make is longer than what came in: it says more and counts as full. Else prove '..UptoSaid'. A law counts once. -/
mutual
def uptoBulk {H : Type} : DataW H → Nat
  | .lit (.string bytes) => bytes.length + 1
  | .lit _ => 1
  | .nil => 1
  | .ptr d => uptoBulk d + 1
  | .slice elems spare => uptoBulkAll elems + uptoBulkAll spare + 1
  | .agg parts => uptoBulkAll parts + 1
  | .iface _ d => uptoBulk d + 1
  | .map entries => uptoBulkEntries entries + 1
  | .held _ => 1
def uptoBulkAll {H : Type} : List (DataW H) → Nat
  | [] => 0
  | d :: r => uptoBulk d + uptoBulkAll r
def uptoBulkEntries {H : Type} : List (Lit × DataW H) → Nat
  | [] => 0
  | x :: r => uptoBulkEntry x + uptoBulkEntries r
def uptoBulkEntry {H : Type} : Lit × DataW H → Nat
  | (.string bytes, d) => bytes.length + uptoBulk d + 1
  | (_, d) => uptoBulk d + 1
 end
def uptoSmall : (H : Type) → List (DataW H) → Bool := fun _ ds => decide (uptoBulkAll ds ≤ 1048576)
def OpenSpec.upto (s : _root_.Go.ChangeSpec) : _root_.Go.OpenSpec := { _root_.Go.OpenSpec.ofChange s with cond := some uptoSmall }

/-- 'laws.FnExactIsTank', WHERE WHAT IT READS IS OF BULK AT MOST 1048576: true; the input reads as it did. -/
def fnExactIsTankUptoRow : OpenClaim := { program := "ytklfelbolblgfaa", sum := "941729e05d6cfc91205eca57eec3134d440ad09750eb6a2d1e57e6586f91ed31", func := "loop.example/g01208/laws.FnExactIsTank", spec := "fnExactIsTank", apart := false, narrowed := true }
def FnExactIsTankUptoSaid : Prop := fnExactIsTankUptoRow.holds Try.pinned (OpenSpec.upto fnExactIsTankSpec)

/-- 'laws.FnExactLevelOf', WHERE WHAT IT READS IS OF BULK AT MOST 1048576: true; the input reads as it did. -/
def fnExactLevelOfUptoRow : OpenClaim := { program := "ytklfelbolblgfaa", sum := "941729e05d6cfc91205eca57eec3134d440ad09750eb6a2d1e57e6586f91ed31", func := "loop.example/g01208/laws.FnExactLevelOf", spec := "fnExactLevelOf", apart := false, narrowed := true }
def FnExactLevelOfUptoSaid : Prop := fnExactLevelOfUptoRow.holds Try.pinned (OpenSpec.upto fnExactLevelOfSpec)

/-- 'laws.FnExactAreTanks', WHERE WHAT IT READS IS OF BULK AT MOST 1048576: true; the input reads as it did. -/
def fnExactAreTanksUptoRow : OpenClaim := { program := "ytklfelbolblgfaa", sum := "941729e05d6cfc91205eca57eec3134d440ad09750eb6a2d1e57e6586f91ed31", func := "loop.example/g01208/laws.FnExactAreTanks", spec := "fnExactAreTanks", apart := false, narrowed := true }
def FnExactAreTanksUptoSaid : Prop := fnExactAreTanksUptoRow.holds Try.pinned (OpenSpec.upto fnExactAreTanksSpec)

/-- 'laws.FnExactWaterBelow', WHERE WHAT IT READS IS OF BULK AT MOST 1048576: true; the input reads as it did. -/
def fnExactWaterBelowUptoRow : OpenClaim := { program := "ytklfelbolblgfaa", sum := "941729e05d6cfc91205eca57eec3134d440ad09750eb6a2d1e57e6586f91ed31", func := "loop.example/g01208/laws.FnExactWaterBelow", spec := "fnExactWaterBelow", unfollowed := true, recurses := true, apart := false, narrowed := true }
def FnExactWaterBelowUptoSaid : Prop := fnExactWaterBelowUptoRow.holds Try.pinned (OpenSpec.upto fnExactWaterBelowSpec)

/-- 'laws.FnExactWaterForLevel', WHERE WHAT IT READS IS OF BULK AT MOST 1048576: true; the input reads as it did. -/
def fnExactWaterForLevelUptoRow : OpenClaim := { program := "ytklfelbolblgfaa", sum := "941729e05d6cfc91205eca57eec3134d440ad09750eb6a2d1e57e6586f91ed31", func := "loop.example/g01208/laws.FnExactWaterForLevel", spec := "fnExactWaterForLevel", unfollowed := true, recurses := true, apart := false, narrowed := true }
def FnExactWaterForLevelUptoSaid : Prop := fnExactWaterForLevelUptoRow.holds Try.pinned (OpenSpec.upto fnExactWaterForLevelSpec)

/-- 'laws.FnExactAreJoins', WHERE WHAT IT READS IS OF BULK AT MOST 1048576: true; the input reads as it did. -/
def fnExactAreJoinsUptoRow : OpenClaim := { program := "ytklfelbolblgfaa", sum := "941729e05d6cfc91205eca57eec3134d440ad09750eb6a2d1e57e6586f91ed31", func := "loop.example/g01208/laws.FnExactAreJoins", spec := "fnExactAreJoins", apart := false, narrowed := true }
def FnExactAreJoinsUptoSaid : Prop := fnExactAreJoinsUptoRow.holds Try.pinned (OpenSpec.upto fnExactAreJoinsSpec)

/-- 'laws.FnExactGroupsOf', WHERE WHAT IT READS IS OF BULK AT MOST 1048576: true; the input reads as it did. -/
def fnExactGroupsOfUptoRow : OpenClaim := { program := "ytklfelbolblgfaa", sum := "941729e05d6cfc91205eca57eec3134d440ad09750eb6a2d1e57e6586f91ed31", func := "loop.example/g01208/laws.FnExactGroupsOf", spec := "fnExactGroupsOf", apart := false, narrowed := true }
def FnExactGroupsOfUptoSaid : Prop := fnExactGroupsOfUptoRow.holds Try.pinned (OpenSpec.upto fnExactGroupsOfSpec)

/-- 'laws.FnExactFloodOrder', WHERE WHAT IT READS IS OF BULK AT MOST 1048576: true; the input reads as it did. -/
def fnExactFloodOrderUptoRow : OpenClaim := { program := "ytklfelbolblgfaa", sum := "941729e05d6cfc91205eca57eec3134d440ad09750eb6a2d1e57e6586f91ed31", func := "loop.example/g01208/laws.FnExactFloodOrder", spec := "fnExactFloodOrder", unfollowed := true, recurses := true, apart := false, narrowed := true }
def FnExactFloodOrderUptoSaid : Prop := fnExactFloodOrderUptoRow.holds Try.pinned (OpenSpec.upto fnExactFloodOrderSpec)

/-- 'laws.FnExactAddRatios', WHERE WHAT IT READS IS OF BULK AT MOST 1048576: true; the input reads as it did. -/
def fnExactAddRatiosUptoRow : OpenClaim := { program := "ytklfelbolblgfaa", sum := "941729e05d6cfc91205eca57eec3134d440ad09750eb6a2d1e57e6586f91ed31", func := "loop.example/g01208/laws.FnExactAddRatios", spec := "fnExactAddRatios", apart := false, narrowed := true }
def FnExactAddRatiosUptoSaid : Prop := fnExactAddRatiosUptoRow.holds Try.pinned (OpenSpec.upto fnExactAddRatiosSpec)

end Rows
end Go.Proofs.Ytklfelbolblgfaa
