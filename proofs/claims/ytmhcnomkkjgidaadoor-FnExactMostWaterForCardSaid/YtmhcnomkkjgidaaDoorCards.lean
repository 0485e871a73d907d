/-
  DERIVED. GIVEN WITH THE SEED: THE CARDS: each row of YtmhcnomkkjgidaaDoorRows.lean that lists a variable, with what it lists TIED to the program's text (the seventh form; the later family's looks); each row that meets fmt, with fmt's text TOLD by the authors' own Lean function (tested against real Go, not proved from fmt's source: count such statements apart). THE CARD IS WHAT COUNTS. Prove the row's statement (the work); the ties are given (YtmhcnomkkjgidaaDoorTie.lean); close each card by the builder's one call (the guide's Derived/Test/ToyasCard.lean, 'card_holds'). Laid BY PROGRAM, IN A SANDBOX (cutbox-door.mjs). By AI agents, Wed Nov 11 2026. No macro, syntax, notation, axiom, sorry.
-/
import Derived.Test.YtmhcnomkkjgidaaDoorRows
import GoSem.ClaimSeven
namespace Go.Proofs.YtmhcnomkkjgidaaDoor
namespace Rows

/-- THE TIED CARD OF 'laws.FnExactIsTraffic'. -/
def fnExactIsTrafficCard : Claim7 := { stood := { row := fnExactIsTrafficRow, standIns := [], harness := (true, "530e9af7b99d8ccf58d823f234886087ac72a0be3560b6950ec2afbdbc5e693c"), looks := false }, kinds := [], alts := [], laidByText := true, laidKinds := [.data, .pinned], laidTests := true, laidLooks := .later }
def FnExactIsTrafficCardSaid : Prop := Claim7.holds Tryd.pinned (.plain (OpenSpec.ofChange fnExactIsTrafficSpec)) fnExactIsTrafficCard

/-- THE TIED CARD OF 'laws.FnExactRunShips'. -/
def fnExactRunShipsCard : Claim7 := { stood := { row := fnExactRunShipsRow, standIns := [], harness := (true, "530e9af7b99d8ccf58d823f234886087ac72a0be3560b6950ec2afbdbc5e693c"), looks := false }, kinds := [], alts := [], laidByText := true, laidKinds := [.data, .pinned], laidTests := true, laidLooks := .later }
def FnExactRunShipsCardSaid : Prop := Claim7.holds Tryd.pinned (.plain (OpenSpec.ofChange fnExactRunShipsSpec)) fnExactRunShipsCard

/-- THE TIED CARD OF 'laws.FnExactStretchChanges'. -/
def fnExactStretchChangesCard : Claim7 := { stood := { row := fnExactStretchChangesRow, standIns := [], harness := (true, "530e9af7b99d8ccf58d823f234886087ac72a0be3560b6950ec2afbdbc5e693c"), looks := false }, kinds := [], alts := [], laidByText := true, laidKinds := [.data, .pinned], laidTests := true, laidLooks := .later }
def FnExactStretchChangesCardSaid : Prop := Claim7.holds Tryd.pinned (.plain (OpenSpec.ofChange fnExactStretchChangesSpec)) fnExactStretchChangesCard

/-- THE TIED CARD OF 'laws.FnExactWaterUsed'. -/
def fnExactWaterUsedCard : Claim7 := { stood := { row := fnExactWaterUsedRow, standIns := [], harness := (true, "530e9af7b99d8ccf58d823f234886087ac72a0be3560b6950ec2afbdbc5e693c"), looks := false }, kinds := [], alts := [], laidByText := true, laidKinds := [.data, .pinned], laidTests := true, laidLooks := .later }
def FnExactWaterUsedCardSaid : Prop := Claim7.holds Tryd.pinned (.plain (OpenSpec.ofChange fnExactWaterUsedSpec)) fnExactWaterUsedCard

/-- THE TIED CARD OF 'laws.FnExactFillingsOf'. -/
def fnExactFillingsOfCard : Claim7 := { stood := { row := fnExactFillingsOfRow, standIns := [], harness := (true, "530e9af7b99d8ccf58d823f234886087ac72a0be3560b6950ec2afbdbc5e693c"), looks := false }, kinds := [], alts := [], laidByText := true, laidKinds := [.data, .pinned], laidTests := true, laidLooks := .later }
def FnExactFillingsOfCardSaid : Prop := Claim7.holds Tryd.pinned (.plain (OpenSpec.ofChange fnExactFillingsOfSpec)) fnExactFillingsOfCard

/-- THE TIED CARD OF 'laws.FnExactLeastWaterFor'. -/
def fnExactLeastWaterForCard : Claim7 := { stood := { row := fnExactLeastWaterForRow, standIns := [], harness := (true, "530e9af7b99d8ccf58d823f234886087ac72a0be3560b6950ec2afbdbc5e693c"), looks := false }, kinds := [], alts := [], laidByText := true, laidKinds := [.data, .pinned], laidTests := true, laidLooks := .later }
def FnExactLeastWaterForCardSaid : Prop := Claim7.holds Tryd.pinned (.plain (OpenSpec.ofChange fnExactLeastWaterForSpec)) fnExactLeastWaterForCard

/-- THE TIED CARD OF 'laws.FnExactMostWaterFor'. -/
def fnExactMostWaterForCard : Claim7 := { stood := { row := fnExactMostWaterForRow, standIns := [], harness := (true, "530e9af7b99d8ccf58d823f234886087ac72a0be3560b6950ec2afbdbc5e693c"), looks := false }, kinds := [], alts := [], laidByText := true, laidKinds := [.data, .pinned], laidTests := true, laidLooks := .later }
def FnExactMostWaterForCardSaid : Prop := Claim7.holds Tryd.pinned (.plain (OpenSpec.ofChange fnExactMostWaterForSpec)) fnExactMostWaterForCard

/-- THE SECOND FORM's CARD OF 'laws.FnExactIsTraffic'. -/
def fnExactIsTrafficUptoCard : Claim7 := { stood := { row := fnExactIsTrafficUptoRow, standIns := [], harness := (true, "530e9af7b99d8ccf58d823f234886087ac72a0be3560b6950ec2afbdbc5e693c"), looks := false }, kinds := [], alts := [], laidByText := true, laidKinds := [.data, .pinned], laidTests := true, laidLooks := .later }
def FnExactIsTrafficUptoCardSaid : Prop := Claim7.holds Tryd.pinned (.plain (OpenSpec.upto fnExactIsTrafficSpec)) fnExactIsTrafficUptoCard

/-- THE SECOND FORM's CARD OF 'laws.FnExactRunShips'. -/
def fnExactRunShipsUptoCard : Claim7 := { stood := { row := fnExactRunShipsUptoRow, standIns := [], harness := (true, "530e9af7b99d8ccf58d823f234886087ac72a0be3560b6950ec2afbdbc5e693c"), looks := false }, kinds := [], alts := [], laidByText := true, laidKinds := [.data, .pinned], laidTests := true, laidLooks := .later }
def FnExactRunShipsUptoCardSaid : Prop := Claim7.holds Tryd.pinned (.plain (OpenSpec.upto fnExactRunShipsSpec)) fnExactRunShipsUptoCard

/-- THE SECOND FORM's CARD OF 'laws.FnExactStretchChanges'. -/
def fnExactStretchChangesUptoCard : Claim7 := { stood := { row := fnExactStretchChangesUptoRow, standIns := [], harness := (true, "530e9af7b99d8ccf58d823f234886087ac72a0be3560b6950ec2afbdbc5e693c"), looks := false }, kinds := [], alts := [], laidByText := true, laidKinds := [.data, .pinned], laidTests := true, laidLooks := .later }
def FnExactStretchChangesUptoCardSaid : Prop := Claim7.holds Tryd.pinned (.plain (OpenSpec.upto fnExactStretchChangesSpec)) fnExactStretchChangesUptoCard

/-- THE SECOND FORM's CARD OF 'laws.FnExactWaterUsed'. -/
def fnExactWaterUsedUptoCard : Claim7 := { stood := { row := fnExactWaterUsedUptoRow, standIns := [], harness := (true, "530e9af7b99d8ccf58d823f234886087ac72a0be3560b6950ec2afbdbc5e693c"), looks := false }, kinds := [], alts := [], laidByText := true, laidKinds := [.data, .pinned], laidTests := true, laidLooks := .later }
def FnExactWaterUsedUptoCardSaid : Prop := Claim7.holds Tryd.pinned (.plain (OpenSpec.upto fnExactWaterUsedSpec)) fnExactWaterUsedUptoCard

/-- THE SECOND FORM's CARD OF 'laws.FnExactFillingsOf'. -/
def fnExactFillingsOfUptoCard : Claim7 := { stood := { row := fnExactFillingsOfUptoRow, standIns := [], harness := (true, "530e9af7b99d8ccf58d823f234886087ac72a0be3560b6950ec2afbdbc5e693c"), looks := false }, kinds := [], alts := [], laidByText := true, laidKinds := [.data, .pinned], laidTests := true, laidLooks := .later }
def FnExactFillingsOfUptoCardSaid : Prop := Claim7.holds Tryd.pinned (.plain (OpenSpec.upto fnExactFillingsOfSpec)) fnExactFillingsOfUptoCard

/-- THE SECOND FORM's CARD OF 'laws.FnExactLeastWaterFor'. -/
def fnExactLeastWaterForUptoCard : Claim7 := { stood := { row := fnExactLeastWaterForUptoRow, standIns := [], harness := (true, "530e9af7b99d8ccf58d823f234886087ac72a0be3560b6950ec2afbdbc5e693c"), looks := false }, kinds := [], alts := [], laidByText := true, laidKinds := [.data, .pinned], laidTests := true, laidLooks := .later }
def FnExactLeastWaterForUptoCardSaid : Prop := Claim7.holds Tryd.pinned (.plain (OpenSpec.upto fnExactLeastWaterForSpec)) fnExactLeastWaterForUptoCard

/-- THE SECOND FORM's CARD OF 'laws.FnExactMostWaterFor'. -/
def fnExactMostWaterForUptoCard : Claim7 := { stood := { row := fnExactMostWaterForUptoRow, standIns := [], harness := (true, "530e9af7b99d8ccf58d823f234886087ac72a0be3560b6950ec2afbdbc5e693c"), looks := false }, kinds := [], alts := [], laidByText := true, laidKinds := [.data, .pinned], laidTests := true, laidLooks := .later }
def FnExactMostWaterForUptoCardSaid : Prop := Claim7.holds Tryd.pinned (.plain (OpenSpec.upto fnExactMostWaterForSpec)) fnExactMostWaterForUptoCard
end Rows
end Go.Proofs.YtmhcnomkkjgidaaDoor
