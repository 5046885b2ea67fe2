/-
  NARROWER THAN 'FOR EVERY INPUT', by the rows' own cells (each row's printed sentence says how): FnExactSkyTrack: laid · FnExactSkyPasses: laid.
  DERIVED. THE GIVEN ROWS OF THIS SEAT. 2 by the template 'for every input the law returns true; each argument reads behind the call as it read before'; 0 by the template 'total and deterministic' (their statements: YtnjkkohhgbgpgaaGreatDoorTotals.lean).
  GIVEN WITH THE SEED: the statements are not yours to turn. If you find one false, say at which input.
  Laid BY PROGRAM, IN A SANDBOX (cutbox-rows.mjs): the forced cells as the released guide's own fill.sh prints them over the translation ee67792ceee20ebd… (all of the seat's roots in one cut). By AI agents, Wed Nov 11 2026. No macro, syntax, notation, axiom, sorry.
-/
import Derived.Test.YtnjkkohhgbgpgaaGreatDoorChecked
import GoSem.Claim
import GoSem.ClaimJoined
import GoSem.ClaimMapViews
import Derived.JoinedTies
import Derived.KernelRfl
namespace Go.Proofs.YtnjkkohhgbgpgaaGreatDoor
/- THE CELL 'sum', in the pinned program and in every row, IS THE sha256 OF THE DUMP (.gsa) THAT YtnjkkohhgbgpgaaGreatDoorProg.lean LOADS. Nothing in Lean hashes anything: it is a label: what it is worth is what the hold of that sum in a sandbox is worth. -/
noncomputable def Tryz.pinned : Pinned := { name := "ytnjkkohhgbgpgaagreatdoor", sum := "ee67792ceee20ebd598b91fa9c6c6c59982d86698380d5a1e4b2741b6452ea24", checked := Tryz.checked }
namespace Rows
def none {H : Type} : Left H := { results := [], args := [] }

/- WHAT THE LISTED PACKAGE-LEVEL VARIABLES READ AS WHEN THE CALL BEGINS. Each datum BY PROGRAM (the guide's laid-datum.mjs) off the statement by which the dump's own 'gosem.cut.vars' lays the variable. In a bare row this is a premise. The card (YtnjkkohhgbgpgaaGreatDoorCards.lean) ties it to the program's text. -/
def laid_loop_example_lapwing_impl_skyTurnWords {H : Type} : DataW H := .agg [.lit (.string [110]), .lit (.string [110, 101]), .lit (.string [101]), .lit (.string [115, 101]), .lit (.string [115]), .lit (.string [115, 119]), .lit (.string [119]), .lit (.string [110, 119])]

/-- 'laws.FnExactSkyTrack': WHATEVER THE INPUT: true; the input reads as it did. -/
def fnExactSkyTrackSpec : ChangeSpec := { name := "fnExactSkyTrack", vars := ["loop.example/lapwing/impl.skyTurnWords"], fn := fun _ => fun
  | [d1, d2, g1] => { results := [.lit (.bool true)], args := [d1, d2], vars := [g1] }
  | _ => none }
def fnExactSkyTrackRow : OpenClaim := { program := "ytnjkkohhgbgpgaagreatdoor", sum := "ee67792ceee20ebd598b91fa9c6c6c59982d86698380d5a1e4b2741b6452ea24", func := "loop.example/lapwing/laws.FnExactSkyTrack", spec := "fnExactSkyTrack", unfollowed := true, recurses := true, named := ["loop.example/lapwing/impl.skyTurnWords"], plainKeys := false, apart := false, laid := [("loop.example/lapwing/impl.skyTurnWords", laid_loop_example_lapwing_impl_skyTurnWords)] }
def FnExactSkyTrackSaid : Prop := fnExactSkyTrackRow.holds Tryz.pinned (OpenSpec.ofChange fnExactSkyTrackSpec)

/-- ITS FALSE NEIGHBOUR: 'it returns false'. Refute it at one input. -/
def fnExactSkyTrackWrong : ChangeSpec := { name := "fnExactSkyTrack", vars := ["loop.example/lapwing/impl.skyTurnWords"], fn := fun _ => fun
  | [d1, d2, g1] => { results := [.lit (.bool false)], args := [d1, d2], vars := [g1] }
  | _ => none }
def FnExactSkyTrackWrongFalsely : Prop := fnExactSkyTrackRow.holds Tryz.pinned (OpenSpec.ofChange fnExactSkyTrackWrong)

/-- 'laws.FnExactSkyPasses': WHATEVER THE INPUT: true; the input reads as it did. -/
def fnExactSkyPassesSpec : ChangeSpec := { name := "fnExactSkyPasses", vars := ["loop.example/lapwing/impl.skyTurnWords"], fn := fun _ => fun
  | [d1, d2, g1] => { results := [.lit (.bool true)], args := [d1, d2], vars := [g1] }
  | _ => none }
def fnExactSkyPassesRow : OpenClaim := { program := "ytnjkkohhgbgpgaagreatdoor", sum := "ee67792ceee20ebd598b91fa9c6c6c59982d86698380d5a1e4b2741b6452ea24", func := "loop.example/lapwing/laws.FnExactSkyPasses", spec := "fnExactSkyPasses", unfollowed := true, recurses := true, named := ["loop.example/lapwing/impl.skyTurnWords"], plainKeys := false, apart := false, laid := [("loop.example/lapwing/impl.skyTurnWords", laid_loop_example_lapwing_impl_skyTurnWords)] }
def FnExactSkyPassesSaid : Prop := fnExactSkyPassesRow.holds Tryz.pinned (OpenSpec.ofChange fnExactSkyPassesSpec)

/-- ITS FALSE NEIGHBOUR: 'it returns false'. Refute it at one input. -/
def fnExactSkyPassesWrong : ChangeSpec := { name := "fnExactSkyPasses", vars := ["loop.example/lapwing/impl.skyTurnWords"], fn := fun _ => fun
  | [d1, d2, g1] => { results := [.lit (.bool false)], args := [d1, d2], vars := [g1] }
  | _ => none }
def FnExactSkyPassesWrongFalsely : Prop := fnExactSkyPassesRow.holds Tryz.pinned (OpenSpec.ofChange fnExactSkyPassesWrong)

/- THE SECOND FORM. 'bulk': how many values and letters a reading holds, each counted each time it is reached (what is shared counts as often as it is met; a slice's spare places count too). A statement '..UptoSaid' is the law's where the arguments, and the package variables that the reading takes, are together of bulk at most 1048576: NARROWER than '..Said'. Prove '..Said' where nothing that the law and all that it calls make is longer than what came in: it says more and counts as full. Else prove '..UptoSaid'. A law counts once. -/
mutual
def uptoBulk {H : Type} : DataW H → Nat
  | .lit (.string bytes) => bytes.length + 1
  | .lit _ => 1
  | .nil => 1
  | .ptr d => uptoBulk d + 1
  | .slice elems spare => uptoBulkAll elems + uptoBulkAll spare + 1
  | .agg parts => uptoBulkAll parts + 1
  | .iface _ d => uptoBulk d + 1
  | .map entries => uptoBulkEntries entries + 1
  | .held _ => 1
def uptoBulkAll {H : Type} : List (DataW H) → Nat
  | [] => 0
  | d :: r => uptoBulk d + uptoBulkAll r
def uptoBulkEntries {H : Type} : List (Lit × DataW H) → Nat
  | [] => 0
  | x :: r => uptoBulkEntry x + uptoBulkEntries r
def uptoBulkEntry {H : Type} : Lit × DataW H → Nat
  | (.string bytes, d) => bytes.length + uptoBulk d + 1
  | (_, d) => uptoBulk d + 1
 end
def uptoSmall : (H : Type) → List (DataW H) → Bool := fun _ ds => decide (uptoBulkAll ds ≤ 1048576)
def OpenSpec.upto (s : _root_.Go.ChangeSpec) : _root_.Go.OpenSpec := { _root_.Go.OpenSpec.ofChange s with cond := some uptoSmall }

/-- 'laws.FnExactSkyTrack', WHERE WHAT IT READS IS OF BULK AT MOST 1048576: true; the input reads as it did. -/
def fnExactSkyTrackUptoRow : OpenClaim := { program := "ytnjkkohhgbgpgaagreatdoor", sum := "ee67792ceee20ebd598b91fa9c6c6c59982d86698380d5a1e4b2741b6452ea24", func := "loop.example/lapwing/laws.FnExactSkyTrack", spec := "fnExactSkyTrack", unfollowed := true, recurses := true, named := ["loop.example/lapwing/impl.skyTurnWords"], plainKeys := false, apart := false, laid := [("loop.example/lapwing/impl.skyTurnWords", laid_loop_example_lapwing_impl_skyTurnWords)], narrowed := true }
def FnExactSkyTrackUptoSaid : Prop := fnExactSkyTrackUptoRow.holds Tryz.pinned (OpenSpec.upto fnExactSkyTrackSpec)

/-- 'laws.FnExactSkyPasses', WHERE WHAT IT READS IS OF BULK AT MOST 1048576: true; the input reads as it did. -/
def fnExactSkyPassesUptoRow : OpenClaim := { program := "ytnjkkohhgbgpgaagreatdoor", sum := "ee67792ceee20ebd598b91fa9c6c6c59982d86698380d5a1e4b2741b6452ea24", func := "loop.example/lapwing/laws.FnExactSkyPasses", spec := "fnExactSkyPasses", unfollowed := true, recurses := true, named := ["loop.example/lapwing/impl.skyTurnWords"], plainKeys := false, apart := false, laid := [("loop.example/lapwing/impl.skyTurnWords", laid_loop_example_lapwing_impl_skyTurnWords)], narrowed := true }
def FnExactSkyPassesUptoSaid : Prop := fnExactSkyPassesUptoRow.holds Tryz.pinned (OpenSpec.upto fnExactSkyPassesSpec)

end Rows
end Go.Proofs.YtnjkkohhgbgpgaaGreatDoor
