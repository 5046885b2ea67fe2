/-
  DERIVED. GIVEN WITH THE SEED: THE CARDS: each row of YthkpjljhjdjbfaaDoorRows.lean that lists a variable, with what it lists TIED to the program's text (the seventh form; the later family's looks); each row that meets fmt, with fmt's text TOLD by the authors' own Lean function (tested against real Go, not proved from fmt's source: count such statements apart). THE CARD IS WHAT COUNTS. Prove the row's statement (the work); the ties are given (YthkpjljhjdjbfaaDoorTie.lean); close each card by the builder's one call (the guide's Derived/Test/ToyasCard.lean, 'card_holds'). Laid BY PROGRAM, IN A SANDBOX (cutbox-door.mjs). By AI agents, Wed Nov 11 2026. No macro, syntax, notation, axiom, sorry.
-/
import Derived.Test.YthkpjljhjdjbfaaDoorRows
import GoSem.ClaimSeven
namespace Go.Proofs.YthkpjljhjdjbfaaDoor
namespace Rows

/-- THE TIED CARD OF 'laws.FnExactSkyWhere'. -/
def fnExactSkyWhereCard : Claim7 := { stood := { row := fnExactSkyWhereRow, standIns := [], harness := (true, "3ac68bd743f0723356f844793b7c3ea698d8ba4401ea78024cbf89aa6c4eed7d"), looks := false }, kinds := [], alts := [], laidByText := true, laidKinds := [.data], laidTests := true, laidLooks := .later }
def FnExactSkyWhereCardSaid : Prop := Claim7.holds Tryd.pinned (.plain (OpenSpec.ofChange fnExactSkyWhereSpec)) fnExactSkyWhereCard

/-- THE SECOND FORM's CARD OF 'laws.FnExactSkyWhere'. -/
def fnExactSkyWhereUptoCard : Claim7 := { stood := { row := fnExactSkyWhereUptoRow, standIns := [], harness := (true, "3ac68bd743f0723356f844793b7c3ea698d8ba4401ea78024cbf89aa6c4eed7d"), looks := false }, kinds := [], alts := [], laidByText := true, laidKinds := [.data], laidTests := true, laidLooks := .later }
def FnExactSkyWhereUptoCardSaid : Prop := Claim7.holds Tryd.pinned (.plain (OpenSpec.upto fnExactSkyWhereSpec)) fnExactSkyWhereUptoCard
end Rows
end Go.Proofs.YthkpjljhjdjbfaaDoor
