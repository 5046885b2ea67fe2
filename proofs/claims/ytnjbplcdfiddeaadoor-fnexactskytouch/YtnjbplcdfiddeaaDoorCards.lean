/-
  DERIVED. GIVEN WITH THE SEED: THE CARDS: each row of YtnjbplcdfiddeaaDoorRows.lean that lists a variable, with what it lists TIED to the program's text (the seventh form; the later family's looks); each row that meets fmt, with fmt's text TOLD by the authors' own Lean function (tested against real Go, not proved from fmt's source: count such statements apart). THE CARD IS WHAT COUNTS. Prove the row's statement (the work); the ties are given (YtnjbplcdfiddeaaDoorTie.lean); close each card by the builder's one call (the guide's Derived/Test/ToyasCard.lean, 'card_holds'). Laid BY PROGRAM, IN A SANDBOX (cutbox-door.mjs). By AI agents, Wed Nov 11 2026. No macro, syntax, notation, axiom, sorry.
-/
import Derived.Test.YtnjbplcdfiddeaaDoorRows
import GoSem.ClaimSeven
namespace Go.Proofs.YtnjbplcdfiddeaaDoor
namespace Rows

/-- THE TIED CARD OF 'laws.FnExactSkyWhere'. -/
def fnExactSkyWhereCard : Claim7 := { stood := { row := fnExactSkyWhereRow, standIns := [], harness := (true, "0ce34294f2525122e79f4947a7c340088345ef69ac93295dc9ff2d5d0d52b162"), looks := false }, kinds := [], alts := [], laidByText := true, laidKinds := [.data], laidTests := true, laidLooks := .later }
def FnExactSkyWhereCardSaid : Prop := Claim7.holds Tryd.pinned (.plain (OpenSpec.ofChange fnExactSkyWhereSpec)) fnExactSkyWhereCard

/-- THE TIED CARD OF 'laws.FnExactSkyTouch'. -/
def fnExactSkyTouchCard : Claim7 := { stood := { row := fnExactSkyTouchRow, standIns := [], harness := (true, "0ce34294f2525122e79f4947a7c340088345ef69ac93295dc9ff2d5d0d52b162"), looks := false }, kinds := [], alts := [], laidByText := true, laidKinds := [.data], laidTests := true, laidLooks := .later }
def FnExactSkyTouchCardSaid : Prop := Claim7.holds Tryd.pinned (.plain (OpenSpec.ofChange fnExactSkyTouchSpec)) fnExactSkyTouchCard

/-- THE SECOND FORM's CARD OF 'laws.FnExactSkyWhere'. -/
def fnExactSkyWhereUptoCard : Claim7 := { stood := { row := fnExactSkyWhereUptoRow, standIns := [], harness := (true, "0ce34294f2525122e79f4947a7c340088345ef69ac93295dc9ff2d5d0d52b162"), looks := false }, kinds := [], alts := [], laidByText := true, laidKinds := [.data], laidTests := true, laidLooks := .later }
def FnExactSkyWhereUptoCardSaid : Prop := Claim7.holds Tryd.pinned (.plain (OpenSpec.upto fnExactSkyWhereSpec)) fnExactSkyWhereUptoCard

/-- THE SECOND FORM's CARD OF 'laws.FnExactSkyTouch'. -/
def fnExactSkyTouchUptoCard : Claim7 := { stood := { row := fnExactSkyTouchUptoRow, standIns := [], harness := (true, "0ce34294f2525122e79f4947a7c340088345ef69ac93295dc9ff2d5d0d52b162"), looks := false }, kinds := [], alts := [], laidByText := true, laidKinds := [.data], laidTests := true, laidLooks := .later }
def FnExactSkyTouchUptoCardSaid : Prop := Claim7.holds Tryd.pinned (.plain (OpenSpec.upto fnExactSkyTouchSpec)) fnExactSkyTouchUptoCard
end Rows
end Go.Proofs.YtnjbplcdfiddeaaDoor
