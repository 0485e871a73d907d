/-
  DERIVED. GIVEN WITH THE SEED: THE CARDS: each row of YtknjobpdbbjeoaaDoorRows.lean that lists a variable, with what it lists TIED to the program's text (the seventh form; the later family's looks); each row that meets fmt, with fmt's text TOLD by the authors' own Lean function (tested against real Go, not proved from fmt's source: count such statements apart). THE CARD IS WHAT COUNTS. Prove the row's statement (the work); the ties are given (YtknjobpdbbjeoaaDoorTie.lean); close each card by the builder's one call (the guide's Derived/Test/ToyasCard.lean, 'card_holds'). Laid BY PROGRAM, IN A SANDBOX (cutbox-door.mjs). By AI agents, Wed Nov 11 2026. No macro, syntax, notation, axiom, sorry.
-/
import Derived.Test.YtknjobpdbbjeoaaDoorRows
import GoSem.ClaimSeven
namespace Go.Proofs.YtknjobpdbbjeoaaDoor
namespace Rows

/-- THE TIED CARD OF 'laws.FnExactParseVessels'. -/
def fnExactParseVesselsCard : Claim7 := { stood := { row := fnExactParseVesselsRow, standIns := [], harness := (true, "e8043cfe2f2ba647703046252d9c9842ab8851c1949c9477840188e87c016d50"), looks := true }, kinds := [], alts := [], laidByText := true, laidKinds := [.data, .data, .data, .data, .sentinel, .sentinel, .pinned], laidTests := true, laidLooks := .later }
def FnExactParseVesselsCardSaid : Prop := Claim7.holds Tryd.pinned (.plain (OpenSpec.ofChange fnExactParseVesselsSpec)) fnExactParseVesselsCard

/-- THE SECOND FORM's CARD OF 'laws.FnExactParseVessels'. -/
def fnExactParseVesselsUptoCard : Claim7 := { stood := { row := fnExactParseVesselsUptoRow, standIns := [], harness := (true, "e8043cfe2f2ba647703046252d9c9842ab8851c1949c9477840188e87c016d50"), looks := true }, kinds := [], alts := [], laidByText := true, laidKinds := [.data, .data, .data, .data, .sentinel, .sentinel, .pinned], laidTests := true, laidLooks := .later }
def FnExactParseVesselsUptoCardSaid : Prop := Claim7.holds Tryd.pinned (.plain (OpenSpec.upto fnExactParseVesselsSpec)) fnExactParseVesselsUptoCard
end Rows
end Go.Proofs.YtknjobpdbbjeoaaDoor
