/-
  No cell of these rows narrows 'for every input' (looked for: loops, veiled, ifaces, maps, wideKeys, modest, calm, conditions, laid).
  DERIVED. THE GIVEN ROWS OF THIS SEAT. 3 by the template 'for every input the law returns true; each argument reads behind the call as it read before'; 0 by the template 'total and deterministic' (their statements: YtgnjkpmbppmoeaaGreatTotals.lean).
  GIVEN WITH THE SEED: the statements are not yours to turn. If you find one false, say at which input.
  Laid BY PROGRAM, IN A SANDBOX (cutbox-rows.mjs): the forced cells as the released guide's own fill.sh prints them over the translation 193a43ceee4d37b7… (all of the seat's roots in one cut). By AI agents, Wed Nov 11 2026. No macro, syntax, notation, axiom, sorry.
-/
import Derived.Test.YtgnjkpmbppmoeaaGreatChecked
import GoSem.Claim
import GoSem.ClaimJoined
import GoSem.ClaimMapViews
import Derived.JoinedTies
import Derived.KernelRfl
namespace Go.Proofs.YtgnjkpmbppmoeaaGreat
/- THE CELL 'sum', in the pinned program and in every row, IS THE sha256 OF THE DUMP (.gsa) THAT YtgnjkpmbppmoeaaGreatProg.lean LOADS. Nothing in Lean hashes anything: it is a label: what it is worth is what the hold of that sum in a sandbox is worth. -/
noncomputable def Tryz.pinned : Pinned := { name := "ytgnjkpmbppmoeaagreat", sum := "193a43ceee4d37b74cf59d77c44b4390450c3826c4eeb2d087d19c0c240c0478", checked := Tryz.checked }
namespace Rows
def none {H : Type} : Left H := { results := [], args := [] }

/-- 'laws.FnExactPlanStands': WHATEVER THE INPUT: true; the input reads as it did. -/
def fnExactPlanStandsSpec : ChangeSpec := { name := "fnExactPlanStands", fn := fun _ => fun
  | [d1, d2] => { results := [.lit (.bool true)], args := [d1, d2] }
  | _ => none }
def fnExactPlanStandsRow : OpenClaim := { program := "ytgnjkpmbppmoeaagreat", sum := "193a43ceee4d37b74cf59d77c44b4390450c3826c4eeb2d087d19c0c240c0478", func := "loop.example/lapwing/laws.FnExactPlanStands", spec := "fnExactPlanStands", unfollowed := true, recurses := true, plainKeys := false, apart := false }
def FnExactPlanStandsSaid : Prop := fnExactPlanStandsRow.holds Tryz.pinned (OpenSpec.ofChange fnExactPlanStandsSpec)

/-- ITS FALSE NEIGHBOUR: 'it returns false'. Refute it at one input. -/
def fnExactPlanStandsWrong : ChangeSpec := { name := "fnExactPlanStands", fn := fun _ => fun
  | [d1, d2] => { results := [.lit (.bool false)], args := [d1, d2] }
  | _ => none }
def FnExactPlanStandsWrongFalsely : Prop := fnExactPlanStandsRow.holds Tryz.pinned (OpenSpec.ofChange fnExactPlanStandsWrong)

/-- 'laws.FnExactPlanPathOf': WHATEVER THE INPUT: true; the input reads as it did. -/
def fnExactPlanPathOfSpec : ChangeSpec := { name := "fnExactPlanPathOf", fn := fun _ => fun
  | [d1, d2] => { results := [.lit (.bool true)], args := [d1, d2] }
  | _ => none }
def fnExactPlanPathOfRow : OpenClaim := { program := "ytgnjkpmbppmoeaagreat", sum := "193a43ceee4d37b74cf59d77c44b4390450c3826c4eeb2d087d19c0c240c0478", func := "loop.example/lapwing/laws.FnExactPlanPathOf", spec := "fnExactPlanPathOf", unfollowed := true, recurses := true, plainKeys := false, apart := false }
def FnExactPlanPathOfSaid : Prop := fnExactPlanPathOfRow.holds Tryz.pinned (OpenSpec.ofChange fnExactPlanPathOfSpec)

/-- ITS FALSE NEIGHBOUR: 'it returns false'. Refute it at one input. -/
def fnExactPlanPathOfWrong : ChangeSpec := { name := "fnExactPlanPathOf", fn := fun _ => fun
  | [d1, d2] => { results := [.lit (.bool false)], args := [d1, d2] }
  | _ => none }
def FnExactPlanPathOfWrongFalsely : Prop := fnExactPlanPathOfRow.holds Tryz.pinned (OpenSpec.ofChange fnExactPlanPathOfWrong)

/-- 'laws.FnExactPlanOver': WHATEVER THE INPUT: true; the input reads as it did. -/
def fnExactPlanOverSpec : ChangeSpec := { name := "fnExactPlanOver", fn := fun _ => fun
  | [d1, d2, d3] => { results := [.lit (.bool true)], args := [d1, d2, d3] }
  | _ => none }
def fnExactPlanOverRow : OpenClaim := { program := "ytgnjkpmbppmoeaagreat", sum := "193a43ceee4d37b74cf59d77c44b4390450c3826c4eeb2d087d19c0c240c0478", func := "loop.example/lapwing/laws.FnExactPlanOver", spec := "fnExactPlanOver", unfollowed := true, recurses := true, plainKeys := false, apart := false }
def FnExactPlanOverSaid : Prop := fnExactPlanOverRow.holds Tryz.pinned (OpenSpec.ofChange fnExactPlanOverSpec)

/-- ITS FALSE NEIGHBOUR: 'it returns false'. Refute it at one input. -/
def fnExactPlanOverWrong : ChangeSpec := { name := "fnExactPlanOver", fn := fun _ => fun
  | [d1, d2, d3] => { results := [.lit (.bool false)], args := [d1, d2, d3] }
  | _ => none }
def FnExactPlanOverWrongFalsely : Prop := fnExactPlanOverRow.holds Tryz.pinned (OpenSpec.ofChange fnExactPlanOverWrong)

/- THE SECOND FORM. 'bulk': how many values and letters a reading holds, each counted each time it is reached (what is shared counts as often as it is met; a slice's spare places count too). A statement '..UptoSaid' is the law's where the arguments, and the package variables that the reading takes, are together of bulk at most 1048576: NARROWER than '..Said'. Prove '..Said' where nothing that the law and all that it calls make is longer than what came in: it says more and counts as full. Else prove '..UptoSaid'. A law counts once. -/
mutual
def uptoBulk {H : Type} : DataW H → Nat
  | .lit (.string bytes) => bytes.length + 1
  | .lit _ => 1
  | .nil => 1
  | .ptr d => uptoBulk d + 1
  | .slice elems spare => uptoBulkAll elems + uptoBulkAll spare + 1
  | .agg parts => uptoBulkAll parts + 1
  | .iface _ d => uptoBulk d + 1
  | .map entries => uptoBulkEntries entries + 1
  | .held _ => 1
def uptoBulkAll {H : Type} : List (DataW H) → Nat
  | [] => 0
  | d :: r => uptoBulk d + uptoBulkAll r
def uptoBulkEntries {H : Type} : List (Lit × DataW H) → Nat
  | [] => 0
  | x :: r => uptoBulkEntry x + uptoBulkEntries r
def uptoBulkEntry {H : Type} : Lit × DataW H → Nat
  | (.string bytes, d) => bytes.length + uptoBulk d + 1
  | (_, d) => uptoBulk d + 1
 end
def uptoSmall : (H : Type) → List (DataW H) → Bool := fun _ ds => decide (uptoBulkAll ds ≤ 1048576)
def OpenSpec.upto (s : _root_.Go.ChangeSpec) : _root_.Go.OpenSpec := { _root_.Go.OpenSpec.ofChange s with cond := some uptoSmall }

/-- 'laws.FnExactPlanStands', WHERE WHAT IT READS IS OF BULK AT MOST 1048576: true; the input reads as it did. -/
def fnExactPlanStandsUptoRow : OpenClaim := { program := "ytgnjkpmbppmoeaagreat", sum := "193a43ceee4d37b74cf59d77c44b4390450c3826c4eeb2d087d19c0c240c0478", func := "loop.example/lapwing/laws.FnExactPlanStands", spec := "fnExactPlanStands", unfollowed := true, recurses := true, plainKeys := false, apart := false, narrowed := true }
def FnExactPlanStandsUptoSaid : Prop := fnExactPlanStandsUptoRow.holds Tryz.pinned (OpenSpec.upto fnExactPlanStandsSpec)

/-- 'laws.FnExactPlanPathOf', WHERE WHAT IT READS IS OF BULK AT MOST 1048576: true; the input reads as it did. -/
def fnExactPlanPathOfUptoRow : OpenClaim := { program := "ytgnjkpmbppmoeaagreat", sum := "193a43ceee4d37b74cf59d77c44b4390450c3826c4eeb2d087d19c0c240c0478", func := "loop.example/lapwing/laws.FnExactPlanPathOf", spec := "fnExactPlanPathOf", unfollowed := true, recurses := true, plainKeys := false, apart := false, narrowed := true }
def FnExactPlanPathOfUptoSaid : Prop := fnExactPlanPathOfUptoRow.holds Tryz.pinned (OpenSpec.upto fnExactPlanPathOfSpec)

/-- 'laws.FnExactPlanOver', WHERE WHAT IT READS IS OF BULK AT MOST 1048576: true; the input reads as it did. -/
def fnExactPlanOverUptoRow : OpenClaim := { program := "ytgnjkpmbppmoeaagreat", sum := "193a43ceee4d37b74cf59d77c44b4390450c3826c4eeb2d087d19c0c240c0478", func := "loop.example/lapwing/laws.FnExactPlanOver", spec := "fnExactPlanOver", unfollowed := true, recurses := true, plainKeys := false, apart := false, narrowed := true }
def FnExactPlanOverUptoSaid : Prop := fnExactPlanOverUptoRow.holds Tryz.pinned (OpenSpec.upto fnExactPlanOverSpec)

end Rows
end Go.Proofs.YtgnjkpmbppmoeaaGreat
