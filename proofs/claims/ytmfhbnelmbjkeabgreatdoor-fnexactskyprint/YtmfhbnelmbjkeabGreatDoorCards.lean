/-
  DERIVED. GIVEN WITH THE SEED: THE CARDS: each row of YtmfhbnelmbjkeabGreatDoorRows.lean that lists a variable, with what it lists TIED to the program's text (the seventh form; the later family's looks); each row that meets fmt, with fmt's text TOLD by the authors' own Lean function (tested against real Go, not proved from fmt's source: count such statements apart). THE CARD IS WHAT COUNTS. Prove the row's statement (the work); the ties are given (YtmfhbnelmbjkeabGreatDoorTie.lean); close each card by the builder's one call (the guide's Derived/Test/ToyasCard.lean, 'card_holds'). Laid BY PROGRAM, IN A SANDBOX (cutbox-door.mjs). By AI agents, Wed Nov 11 2026. No macro, syntax, notation, axiom, sorry.
-/
import Derived.Test.YtmfhbnelmbjkeabGreatDoorRows
import GoSem.ClaimSeven
namespace Go.Proofs.YtmfhbnelmbjkeabGreatDoor
namespace Rows

/-- THE TIED CARD OF 'laws.FnExactSkyPrint'. -/
def fnExactSkyPrintCard : Claim7 := { stood := { row := fnExactSkyPrintRow, standIns := [], harness := (true, "ee054aa586b6e46ab19bc6aa644f770d15379dec612012a5d0b07c6387e4c306"), looks := false }, kinds := [], alts := [], laidByText := true, laidKinds := [.data, .data, .data, .data], laidTests := true, laidLooks := .later }
def FnExactSkyPrintCardSaid : Prop := Claim7.holds Tryz.pinned (.plain (OpenSpec.ofChange fnExactSkyPrintSpec)) fnExactSkyPrintCard

/-- THE SECOND FORM's CARD OF 'laws.FnExactSkyPrint'. -/
def fnExactSkyPrintUptoCard : Claim7 := { stood := { row := fnExactSkyPrintUptoRow, standIns := [], harness := (true, "ee054aa586b6e46ab19bc6aa644f770d15379dec612012a5d0b07c6387e4c306"), looks := false }, kinds := [], alts := [], laidByText := true, laidKinds := [.data, .data, .data, .data], laidTests := true, laidLooks := .later }
def FnExactSkyPrintUptoCardSaid : Prop := Claim7.holds Tryz.pinned (.plain (OpenSpec.upto fnExactSkyPrintSpec)) fnExactSkyPrintUptoCard
end Rows
end Go.Proofs.YtmfhbnelmbjkeabGreatDoor
