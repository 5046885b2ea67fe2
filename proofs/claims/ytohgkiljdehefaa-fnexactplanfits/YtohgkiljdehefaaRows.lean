/-
  No cell of these rows narrows 'for every input' (looked for: loops, veiled, ifaces, maps, wideKeys, modest, calm, conditions, laid).
  DERIVED. THE GIVEN ROWS OF THIS SEAT. 5 by the template 'for every input the law returns true; each argument reads behind the call as it read before'; 0 by the template 'total and deterministic' (their statements: YtohgkiljdehefaaTotals.lean).
  GIVEN WITH THE SEED: the statements are not yours to turn. If you find one false, say at which input.
  Laid BY PROGRAM, IN A SANDBOX (cutbox-rows.mjs): the forced cells as the released guide's own fill.sh prints them over the translation 1b34e2e7f77f2295… (all of the seat's roots in one cut). By AI agents, Wed Nov 11 2026. No macro, syntax, notation, axiom, sorry.
-/
import Derived.Test.YtohgkiljdehefaaChecked
import GoSem.Claim
import GoSem.ClaimJoined
import GoSem.ClaimMapViews
import Derived.JoinedTies
import Derived.KernelRfl
namespace Go.Proofs.Ytohgkiljdehefaa
/- THE CELL 'sum', in the pinned program and in every row, IS THE sha256 OF THE DUMP (.gsa) THAT YtohgkiljdehefaaProg.lean LOADS. Nothing in Lean hashes anything: it is a label: what it is worth is what the hold of that sum in a sandbox is worth. -/
noncomputable def Try.pinned : Pinned := { name := "ytohgkiljdehefaa", sum := "1b34e2e7f77f229577bf73c9fdff229d9aa8763b2f017b8d1a9768e2ebc3f005", checked := Try.checked }
namespace Rows
def none {H : Type} : Left H := { results := [], args := [] }

/-- 'laws.FnExactPlanBaseOk': WHATEVER THE INPUT: true; the input reads as it did. -/
def fnExactPlanBaseOkSpec : ChangeSpec := { name := "fnExactPlanBaseOk", fn := fun _ => fun
  | [d] => { results := [.lit (.bool true)], args := [d] }
  | _ => none }
def fnExactPlanBaseOkRow : OpenClaim := { program := "ytohgkiljdehefaa", sum := "1b34e2e7f77f229577bf73c9fdff229d9aa8763b2f017b8d1a9768e2ebc3f005", func := "loop.example/lapwing/laws.FnExactPlanBaseOk", spec := "fnExactPlanBaseOk", unfollowed := true, recurses := true, plainKeys := false, apart := false }
def FnExactPlanBaseOkSaid : Prop := fnExactPlanBaseOkRow.holds Try.pinned (OpenSpec.ofChange fnExactPlanBaseOkSpec)

/-- ITS FALSE NEIGHBOUR: 'it returns false'. Refute it at one input. -/
def fnExactPlanBaseOkWrong : ChangeSpec := { name := "fnExactPlanBaseOk", fn := fun _ => fun
  | [d] => { results := [.lit (.bool false)], args := [d] }
  | _ => none }
def FnExactPlanBaseOkWrongFalsely : Prop := fnExactPlanBaseOkRow.holds Try.pinned (OpenSpec.ofChange fnExactPlanBaseOkWrong)

/-- 'laws.FnExactPlanFits': WHATEVER THE INPUT: true; the input reads as it did. -/
def fnExactPlanFitsSpec : ChangeSpec := { name := "fnExactPlanFits", fn := fun _ => fun
  | [d1, d2, d3] => { results := [.lit (.bool true)], args := [d1, d2, d3] }
  | _ => none }
def fnExactPlanFitsRow : OpenClaim := { program := "ytohgkiljdehefaa", sum := "1b34e2e7f77f229577bf73c9fdff229d9aa8763b2f017b8d1a9768e2ebc3f005", func := "loop.example/lapwing/laws.FnExactPlanFits", spec := "fnExactPlanFits", unfollowed := true, recurses := true, plainKeys := false, apart := false }
def FnExactPlanFitsSaid : Prop := fnExactPlanFitsRow.holds Try.pinned (OpenSpec.ofChange fnExactPlanFitsSpec)

/-- ITS FALSE NEIGHBOUR: 'it returns false'. Refute it at one input. -/
def fnExactPlanFitsWrong : ChangeSpec := { name := "fnExactPlanFits", fn := fun _ => fun
  | [d1, d2, d3] => { results := [.lit (.bool false)], args := [d1, d2, d3] }
  | _ => none }
def FnExactPlanFitsWrongFalsely : Prop := fnExactPlanFitsRow.holds Try.pinned (OpenSpec.ofChange fnExactPlanFitsWrong)

/-- 'laws.FnExactPlanChangeOk': WHATEVER THE INPUT: true; the input reads as it did. -/
def fnExactPlanChangeOkSpec : ChangeSpec := { name := "fnExactPlanChangeOk", fn := fun _ => fun
  | [d1, d2] => { results := [.lit (.bool true)], args := [d1, d2] }
  | _ => none }
def fnExactPlanChangeOkRow : OpenClaim := { program := "ytohgkiljdehefaa", sum := "1b34e2e7f77f229577bf73c9fdff229d9aa8763b2f017b8d1a9768e2ebc3f005", func := "loop.example/lapwing/laws.FnExactPlanChangeOk", spec := "fnExactPlanChangeOk", unfollowed := true, recurses := true, plainKeys := false, apart := false }
def FnExactPlanChangeOkSaid : Prop := fnExactPlanChangeOkRow.holds Try.pinned (OpenSpec.ofChange fnExactPlanChangeOkSpec)

/-- ITS FALSE NEIGHBOUR: 'it returns false'. Refute it at one input. -/
def fnExactPlanChangeOkWrong : ChangeSpec := { name := "fnExactPlanChangeOk", fn := fun _ => fun
  | [d1, d2] => { results := [.lit (.bool false)], args := [d1, d2] }
  | _ => none }
def FnExactPlanChangeOkWrongFalsely : Prop := fnExactPlanChangeOkRow.holds Try.pinned (OpenSpec.ofChange fnExactPlanChangeOkWrong)

/-- 'laws.FnExactPlanBookOk': WHATEVER THE INPUT: true; the input reads as it did. -/
def fnExactPlanBookOkSpec : ChangeSpec := { name := "fnExactPlanBookOk", fn := fun _ => fun
  | [d] => { results := [.lit (.bool true)], args := [d] }
  | _ => none }
def fnExactPlanBookOkRow : OpenClaim := { program := "ytohgkiljdehefaa", sum := "1b34e2e7f77f229577bf73c9fdff229d9aa8763b2f017b8d1a9768e2ebc3f005", func := "loop.example/lapwing/laws.FnExactPlanBookOk", spec := "fnExactPlanBookOk", unfollowed := true, recurses := true, plainKeys := false, apart := false }
def FnExactPlanBookOkSaid : Prop := fnExactPlanBookOkRow.holds Try.pinned (OpenSpec.ofChange fnExactPlanBookOkSpec)

/-- ITS FALSE NEIGHBOUR: 'it returns false'. Refute it at one input. -/
def fnExactPlanBookOkWrong : ChangeSpec := { name := "fnExactPlanBookOk", fn := fun _ => fun
  | [d] => { results := [.lit (.bool false)], args := [d] }
  | _ => none }
def FnExactPlanBookOkWrongFalsely : Prop := fnExactPlanBookOkRow.holds Try.pinned (OpenSpec.ofChange fnExactPlanBookOkWrong)

/-- 'laws.FnExactPlanCells': WHATEVER THE INPUT: true; the input reads as it did. -/
def fnExactPlanCellsSpec : ChangeSpec := { name := "fnExactPlanCells", fn := fun _ => fun
  | [d1, d2] => { results := [.lit (.bool true)], args := [d1, d2] }
  | _ => none }
def fnExactPlanCellsRow : OpenClaim := { program := "ytohgkiljdehefaa", sum := "1b34e2e7f77f229577bf73c9fdff229d9aa8763b2f017b8d1a9768e2ebc3f005", func := "loop.example/lapwing/laws.FnExactPlanCells", spec := "fnExactPlanCells", unfollowed := true, recurses := true, plainKeys := false, apart := false }
def FnExactPlanCellsSaid : Prop := fnExactPlanCellsRow.holds Try.pinned (OpenSpec.ofChange fnExactPlanCellsSpec)

/-- ITS FALSE NEIGHBOUR: 'it returns false'. Refute it at one input. -/
def fnExactPlanCellsWrong : ChangeSpec := { name := "fnExactPlanCells", fn := fun _ => fun
  | [d1, d2] => { results := [.lit (.bool false)], args := [d1, d2] }
  | _ => none }
def FnExactPlanCellsWrongFalsely : Prop := fnExactPlanCellsRow.holds Try.pinned (OpenSpec.ofChange fnExactPlanCellsWrong)

/- THE SECOND FORM. 'bulk': how many values and letters a reading holds, each counted each time it is reached (what is shared counts as often as it is met; a slice's spare places count too). A statement '..UptoSaid' is the law's where the arguments, and the package variables that the reading takes, are together of bulk at most 1048576: NARROWER than '..Said'. Prove '..Said' where nothing that the law and all that it calls make is longer than what came in: it says more and counts as full. Else prove '..UptoSaid'. A law counts once. -/
mutual
def uptoBulk {H : Type} : DataW H → Nat
  | .lit (.string bytes) => bytes.length + 1
  | .lit _ => 1
  | .nil => 1
  | .ptr d => uptoBulk d + 1
  | .slice elems spare => uptoBulkAll elems + uptoBulkAll spare + 1
  | .agg parts => uptoBulkAll parts + 1
  | .iface _ d => uptoBulk d + 1
  | .map entries => uptoBulkEntries entries + 1
  | .held _ => 1
def uptoBulkAll {H : Type} : List (DataW H) → Nat
  | [] => 0
  | d :: r => uptoBulk d + uptoBulkAll r
def uptoBulkEntries {H : Type} : List (Lit × DataW H) → Nat
  | [] => 0
  | x :: r => uptoBulkEntry x + uptoBulkEntries r
def uptoBulkEntry {H : Type} : Lit × DataW H → Nat
  | (.string bytes, d) => bytes.length + uptoBulk d + 1
  | (_, d) => uptoBulk d + 1
 end
def uptoSmall : (H : Type) → List (DataW H) → Bool := fun _ ds => decide (uptoBulkAll ds ≤ 1048576)
def OpenSpec.upto (s : _root_.Go.ChangeSpec) : _root_.Go.OpenSpec := { _root_.Go.OpenSpec.ofChange s with cond := some uptoSmall }

/-- 'laws.FnExactPlanBaseOk', WHERE WHAT IT READS IS OF BULK AT MOST 1048576: true; the input reads as it did. -/
def fnExactPlanBaseOkUptoRow : OpenClaim := { program := "ytohgkiljdehefaa", sum := "1b34e2e7f77f229577bf73c9fdff229d9aa8763b2f017b8d1a9768e2ebc3f005", func := "loop.example/lapwing/laws.FnExactPlanBaseOk", spec := "fnExactPlanBaseOk", unfollowed := true, recurses := true, plainKeys := false, apart := false, narrowed := true }
def FnExactPlanBaseOkUptoSaid : Prop := fnExactPlanBaseOkUptoRow.holds Try.pinned (OpenSpec.upto fnExactPlanBaseOkSpec)

/-- 'laws.FnExactPlanFits', WHERE WHAT IT READS IS OF BULK AT MOST 1048576: true; the input reads as it did. -/
def fnExactPlanFitsUptoRow : OpenClaim := { program := "ytohgkiljdehefaa", sum := "1b34e2e7f77f229577bf73c9fdff229d9aa8763b2f017b8d1a9768e2ebc3f005", func := "loop.example/lapwing/laws.FnExactPlanFits", spec := "fnExactPlanFits", unfollowed := true, recurses := true, plainKeys := false, apart := false, narrowed := true }
def FnExactPlanFitsUptoSaid : Prop := fnExactPlanFitsUptoRow.holds Try.pinned (OpenSpec.upto fnExactPlanFitsSpec)

/-- 'laws.FnExactPlanChangeOk', WHERE WHAT IT READS IS OF BULK AT MOST 1048576: true; the input reads as it did. -/
def fnExactPlanChangeOkUptoRow : OpenClaim := { program := "ytohgkiljdehefaa", sum := "1b34e2e7f77f229577bf73c9fdff229d9aa8763b2f017b8d1a9768e2ebc3f005", func := "loop.example/lapwing/laws.FnExactPlanChangeOk", spec := "fnExactPlanChangeOk", unfollowed := true, recurses := true, plainKeys := false, apart := false, narrowed := true }
def FnExactPlanChangeOkUptoSaid : Prop := fnExactPlanChangeOkUptoRow.holds Try.pinned (OpenSpec.upto fnExactPlanChangeOkSpec)

/-- 'laws.FnExactPlanBookOk', WHERE WHAT IT READS IS OF BULK AT MOST 1048576: true; the input reads as it did. -/
def fnExactPlanBookOkUptoRow : OpenClaim := { program := "ytohgkiljdehefaa", sum := "1b34e2e7f77f229577bf73c9fdff229d9aa8763b2f017b8d1a9768e2ebc3f005", func := "loop.example/lapwing/laws.FnExactPlanBookOk", spec := "fnExactPlanBookOk", unfollowed := true, recurses := true, plainKeys := false, apart := false, narrowed := true }
def FnExactPlanBookOkUptoSaid : Prop := fnExactPlanBookOkUptoRow.holds Try.pinned (OpenSpec.upto fnExactPlanBookOkSpec)

/-- 'laws.FnExactPlanCells', WHERE WHAT IT READS IS OF BULK AT MOST 1048576: true; the input reads as it did. -/
def fnExactPlanCellsUptoRow : OpenClaim := { program := "ytohgkiljdehefaa", sum := "1b34e2e7f77f229577bf73c9fdff229d9aa8763b2f017b8d1a9768e2ebc3f005", func := "loop.example/lapwing/laws.FnExactPlanCells", spec := "fnExactPlanCells", unfollowed := true, recurses := true, plainKeys := false, apart := false, narrowed := true }
def FnExactPlanCellsUptoSaid : Prop := fnExactPlanCellsUptoRow.holds Try.pinned (OpenSpec.upto fnExactPlanCellsSpec)

end Rows
end Go.Proofs.Ytohgkiljdehefaa
