/-
  DERIVED. GIVEN WITH THE SEED: THE CARDS: each row of YthmckgpgpmioeaaDoorRows.lean that lists a variable, with what it lists TIED to the program's text (the seventh form; the later family's looks); each row that meets fmt, with fmt's text TOLD by the authors' own Lean function (tested against real Go, not proved from fmt's source: count such statements apart). THE CARD IS WHAT COUNTS. Prove the row's statement (the work); the ties are given (YthmckgpgpmioeaaDoorTie.lean); close each card by the builder's one call (the guide's Derived/Test/ToyasCard.lean, 'card_holds'). Laid BY PROGRAM, IN A SANDBOX (cutbox-door.mjs). By AI agents, Wed Nov 11 2026. No macro, syntax, notation, axiom, sorry.
-/
import Derived.Test.YthmckgpgpmioeaaDoorRows
import GoSem.ClaimSeven
namespace Go.Proofs.YthmckgpgpmioeaaDoor
namespace Rows

/-- THE TIED CARD OF 'laws.FnExactSkyValid'. -/
def fnExactSkyValidCard : Claim7 := { stood := { row := fnExactSkyValidRow, standIns := [], harness := (true, "5fc7dc89b758a1fe3f3218c377a7d16606c4b7784082c09053b0dceb32f17d21"), looks := false }, kinds := [], alts := [], laidByText := true, laidKinds := [.data], laidTests := true, laidLooks := .later }
def FnExactSkyValidCardSaid : Prop := Claim7.holds Tryd.pinned (.plain (OpenSpec.ofChange fnExactSkyValidSpec)) fnExactSkyValidCard

/-- THE SECOND FORM's CARD OF 'laws.FnExactSkyValid'. -/
def fnExactSkyValidUptoCard : Claim7 := { stood := { row := fnExactSkyValidUptoRow, standIns := [], harness := (true, "5fc7dc89b758a1fe3f3218c377a7d16606c4b7784082c09053b0dceb32f17d21"), looks := false }, kinds := [], alts := [], laidByText := true, laidKinds := [.data], laidTests := true, laidLooks := .later }
def FnExactSkyValidUptoCardSaid : Prop := Claim7.holds Tryd.pinned (.plain (OpenSpec.upto fnExactSkyValidSpec)) fnExactSkyValidUptoCard
end Rows
end Go.Proofs.YthmckgpgpmioeaaDoor
