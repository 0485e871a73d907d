/-
  DERIVED. GIVEN WITH THE SEED: THE CARDS: each row of YtkonhflamnekcaaDoorRows.lean that lists a variable, with what it lists TIED to the program's text (the seventh form; the later family's looks); each row that meets fmt, with fmt's text TOLD by the authors' own Lean function (tested against real Go, not proved from fmt's source: count such statements apart). THE CARD IS WHAT COUNTS. Prove the row's statement (the work); the ties are given (YtkonhflamnekcaaDoorTie.lean); close each card by the builder's one call (the guide's Derived/Test/ToyasCard.lean, 'card_holds'). Laid BY PROGRAM, IN A SANDBOX (cutbox-door.mjs). By AI agents, Wed Nov 11 2026. No macro, syntax, notation, axiom, sorry.
-/
import Derived.Test.YtkonhflamnekcaaDoorRows
import GoSem.ClaimSeven
namespace Go.Proofs.YtkonhflamnekcaaDoor
namespace Rows

/-- THE TIED CARD OF 'laws.FnExactVesselsText'. -/
def fnExactVesselsTextCard : Claim7 := { stood := { row := fnExactVesselsTextRow, standIns := [], harness := (true, "bd78044d9cc31b8ecdf2a455ed4e890d2c9cebb460bdf67c25c0dd4a2d7314f9"), looks := true }, kinds := [], alts := [], laidByText := true, laidKinds := [.data, .data, .data], laidTests := true, laidLooks := .later }
def FnExactVesselsTextCardSaid : Prop := Claim7.holds Tryd.pinned (.plain (OpenSpec.ofChange fnExactVesselsTextSpec)) fnExactVesselsTextCard

/-- THE TIED CARD OF 'laws.FnExactParseVessels'. -/
def fnExactParseVesselsCard : Claim7 := { stood := { row := fnExactParseVesselsRow, standIns := [], harness := (true, "bd78044d9cc31b8ecdf2a455ed4e890d2c9cebb460bdf67c25c0dd4a2d7314f9"), looks := true }, kinds := [], alts := [], laidByText := true, laidKinds := [.data, .data, .data, .data, .sentinel, .sentinel, .pinned], laidTests := true, laidLooks := .later }
def FnExactParseVesselsCardSaid : Prop := Claim7.holds Tryd.pinned (.plain (OpenSpec.ofChange fnExactParseVesselsSpec)) fnExactParseVesselsCard

/-- THE TIED CARD OF 'laws.FnExactMoveText'. -/
def fnExactMoveTextCard : Claim7 := { stood := { row := fnExactMoveTextRow, standIns := [], harness := (true, "bd78044d9cc31b8ecdf2a455ed4e890d2c9cebb460bdf67c25c0dd4a2d7314f9"), looks := true }, kinds := [], alts := [], laidByText := true, laidKinds := [.data, .data, .data], laidTests := true, laidLooks := .later }
def FnExactMoveTextCardSaid : Prop := Claim7.holds Tryd.pinned (.plain (OpenSpec.ofChange fnExactMoveTextSpec)) fnExactMoveTextCard

/-- THE TIED CARD OF 'laws.FnExactParseMove'. -/
def fnExactParseMoveCard : Claim7 := { stood := { row := fnExactParseMoveRow, standIns := [], harness := (true, "bd78044d9cc31b8ecdf2a455ed4e890d2c9cebb460bdf67c25c0dd4a2d7314f9"), looks := true }, kinds := [], alts := [], laidByText := true, laidKinds := [.data, .data, .data, .sentinel, .sentinel], laidTests := true, laidLooks := .later }
def FnExactParseMoveCardSaid : Prop := Claim7.holds Tryd.pinned (.plain (OpenSpec.ofChange fnExactParseMoveSpec)) fnExactParseMoveCard

/-- THE SECOND FORM's CARD OF 'laws.FnExactVesselsText'. -/
def fnExactVesselsTextUptoCard : Claim7 := { stood := { row := fnExactVesselsTextUptoRow, standIns := [], harness := (true, "bd78044d9cc31b8ecdf2a455ed4e890d2c9cebb460bdf67c25c0dd4a2d7314f9"), looks := true }, kinds := [], alts := [], laidByText := true, laidKinds := [.data, .data, .data], laidTests := true, laidLooks := .later }
def FnExactVesselsTextUptoCardSaid : Prop := Claim7.holds Tryd.pinned (.plain (OpenSpec.upto fnExactVesselsTextSpec)) fnExactVesselsTextUptoCard

/-- THE SECOND FORM's CARD OF 'laws.FnExactParseVessels'. -/
def fnExactParseVesselsUptoCard : Claim7 := { stood := { row := fnExactParseVesselsUptoRow, standIns := [], harness := (true, "bd78044d9cc31b8ecdf2a455ed4e890d2c9cebb460bdf67c25c0dd4a2d7314f9"), looks := true }, kinds := [], alts := [], laidByText := true, laidKinds := [.data, .data, .data, .data, .sentinel, .sentinel, .pinned], laidTests := true, laidLooks := .later }
def FnExactParseVesselsUptoCardSaid : Prop := Claim7.holds Tryd.pinned (.plain (OpenSpec.upto fnExactParseVesselsSpec)) fnExactParseVesselsUptoCard

/-- THE SECOND FORM's CARD OF 'laws.FnExactMoveText'. -/
def fnExactMoveTextUptoCard : Claim7 := { stood := { row := fnExactMoveTextUptoRow, standIns := [], harness := (true, "bd78044d9cc31b8ecdf2a455ed4e890d2c9cebb460bdf67c25c0dd4a2d7314f9"), looks := true }, kinds := [], alts := [], laidByText := true, laidKinds := [.data, .data, .data], laidTests := true, laidLooks := .later }
def FnExactMoveTextUptoCardSaid : Prop := Claim7.holds Tryd.pinned (.plain (OpenSpec.upto fnExactMoveTextSpec)) fnExactMoveTextUptoCard

/-- THE SECOND FORM's CARD OF 'laws.FnExactParseMove'. -/
def fnExactParseMoveUptoCard : Claim7 := { stood := { row := fnExactParseMoveUptoRow, standIns := [], harness := (true, "bd78044d9cc31b8ecdf2a455ed4e890d2c9cebb460bdf67c25c0dd4a2d7314f9"), looks := true }, kinds := [], alts := [], laidByText := true, laidKinds := [.data, .data, .data, .sentinel, .sentinel], laidTests := true, laidLooks := .later }
def FnExactParseMoveUptoCardSaid : Prop := Claim7.holds Tryd.pinned (.plain (OpenSpec.upto fnExactParseMoveSpec)) fnExactParseMoveUptoCard
end Rows
end Go.Proofs.YtkonhflamnekcaaDoor
