/-
  DERIVED. GIVEN WITH THE SEED: THE CARDS: each row of YtnjkkohhgbgpgaaGreatDoorRows.lean that lists a variable, with what it lists TIED to the program's text (the seventh form; the later family's looks); each row that meets fmt, with fmt's text TOLD by the authors' own Lean function (tested against real Go, not proved from fmt's source: count such statements apart). THE CARD IS WHAT COUNTS. Prove the row's statement (the work); the ties are given (YtnjkkohhgbgpgaaGreatDoorTie.lean); close each card by the builder's one call (the guide's Derived/Test/ToyasCard.lean, 'card_holds'). Laid BY PROGRAM, IN A SANDBOX (cutbox-door.mjs). By AI agents, Wed Nov 11 2026. No macro, syntax, notation, axiom, sorry.
-/
import Derived.Test.YtnjkkohhgbgpgaaGreatDoorRows
import GoSem.ClaimSeven
namespace Go.Proofs.YtnjkkohhgbgpgaaGreatDoor
namespace Rows

/-- THE TIED CARD OF 'laws.FnExactSkyTrack'. -/
def fnExactSkyTrackCard : Claim7 := { stood := { row := fnExactSkyTrackRow, standIns := [], harness := (true, "8f945f4f3dc75fe208fce5ccbb54512e8f89f53154bb4b1948600ef6a322757d"), looks := false }, kinds := [], alts := [], laidByText := true, laidKinds := [.data], laidTests := true, laidLooks := .later }
def FnExactSkyTrackCardSaid : Prop := Claim7.holds Tryz.pinned (.plain (OpenSpec.ofChange fnExactSkyTrackSpec)) fnExactSkyTrackCard

/-- THE TIED CARD OF 'laws.FnExactSkyPasses'. -/
def fnExactSkyPassesCard : Claim7 := { stood := { row := fnExactSkyPassesRow, standIns := [], harness := (true, "8f945f4f3dc75fe208fce5ccbb54512e8f89f53154bb4b1948600ef6a322757d"), looks := false }, kinds := [], alts := [], laidByText := true, laidKinds := [.data], laidTests := true, laidLooks := .later }
def FnExactSkyPassesCardSaid : Prop := Claim7.holds Tryz.pinned (.plain (OpenSpec.ofChange fnExactSkyPassesSpec)) fnExactSkyPassesCard

/-- THE SECOND FORM's CARD OF 'laws.FnExactSkyTrack'. -/
def fnExactSkyTrackUptoCard : Claim7 := { stood := { row := fnExactSkyTrackUptoRow, standIns := [], harness := (true, "8f945f4f3dc75fe208fce5ccbb54512e8f89f53154bb4b1948600ef6a322757d"), looks := false }, kinds := [], alts := [], laidByText := true, laidKinds := [.data], laidTests := true, laidLooks := .later }
def FnExactSkyTrackUptoCardSaid : Prop := Claim7.holds Tryz.pinned (.plain (OpenSpec.upto fnExactSkyTrackSpec)) fnExactSkyTrackUptoCard

/-- THE SECOND FORM's CARD OF 'laws.FnExactSkyPasses'. -/
def fnExactSkyPassesUptoCard : Claim7 := { stood := { row := fnExactSkyPassesUptoRow, standIns := [], harness := (true, "8f945f4f3dc75fe208fce5ccbb54512e8f89f53154bb4b1948600ef6a322757d"), looks := false }, kinds := [], alts := [], laidByText := true, laidKinds := [.data], laidTests := true, laidLooks := .later }
def FnExactSkyPassesUptoCardSaid : Prop := Claim7.holds Tryz.pinned (.plain (OpenSpec.upto fnExactSkyPassesSpec)) fnExactSkyPassesUptoCard
end Rows
end Go.Proofs.YtnjkkohhgbgpgaaGreatDoor
