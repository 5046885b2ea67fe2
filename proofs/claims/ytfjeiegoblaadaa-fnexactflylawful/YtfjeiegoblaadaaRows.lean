/-
  No cell of these rows narrows 'for every input' (looked for: loops, veiled, ifaces, maps, wideKeys, modest, calm, conditions, laid).
  DERIVED. THE GIVEN ROWS OF THIS SEAT. 4 by the template 'for every input the law returns true; each argument reads behind the call as it read before'; 0 by the template 'total and deterministic' (their statements: YtfjeiegoblaadaaTotals.lean).
  GIVEN WITH THE SEED: the statements are not yours to turn. If you find one false, say at which input.
  Laid BY PROGRAM, IN A SANDBOX (cutbox-rows.mjs): the forced cells as the released guide's own fill.sh prints them over the translation ef521e38a9657519… (all of the seat's roots in one cut). By AI agents, Wed Nov 11 2026. No macro, syntax, notation, axiom, sorry.
-/
import Derived.Test.YtfjeiegoblaadaaChecked
import GoSem.Claim
import GoSem.ClaimJoined
import GoSem.ClaimMapViews
import Derived.JoinedTies
import Derived.KernelRfl
namespace Go.Proofs.Ytfjeiegoblaadaa
/- THE CELL 'sum', in the pinned program and in every row, IS THE sha256 OF THE DUMP (.gsa) THAT YtfjeiegoblaadaaProg.lean LOADS. Nothing in Lean hashes anything: it is a label: what it is worth is what the hold of that sum in a sandbox is worth. -/
noncomputable def Try.pinned : Pinned := { name := "ytfjeiegoblaadaa", sum := "ef521e38a965751959d888107cc4db0d25ecdfc4ed76aaf95e2a47b2d06d960c", checked := Try.checked }
namespace Rows
def none {H : Type} : Left H := { results := [], args := [] }

/-- 'laws.FnExactFlyKindOk': WHATEVER THE INPUT: true; the input reads as it did. -/
def fnExactFlyKindOkSpec : ChangeSpec := { name := "fnExactFlyKindOk", fn := fun _ => fun
  | [d] => { results := [.lit (.bool true)], args := [d] }
  | _ => none }
def fnExactFlyKindOkRow : OpenClaim := { program := "ytfjeiegoblaadaa", sum := "ef521e38a965751959d888107cc4db0d25ecdfc4ed76aaf95e2a47b2d06d960c", func := "loop.example/lapwing/laws.FnExactFlyKindOk", spec := "fnExactFlyKindOk", apart := false }
def FnExactFlyKindOkSaid : Prop := fnExactFlyKindOkRow.holds Try.pinned (OpenSpec.ofChange fnExactFlyKindOkSpec)

/-- ITS FALSE NEIGHBOUR: 'it returns false'. Refute it at one input. -/
def fnExactFlyKindOkWrong : ChangeSpec := { name := "fnExactFlyKindOk", fn := fun _ => fun
  | [d] => { results := [.lit (.bool false)], args := [d] }
  | _ => none }
def FnExactFlyKindOkWrongFalsely : Prop := fnExactFlyKindOkRow.holds Try.pinned (OpenSpec.ofChange fnExactFlyKindOkWrong)

/-- 'laws.FnExactFlyPathOk': WHATEVER THE INPUT: true; the input reads as it did. -/
def fnExactFlyPathOkSpec : ChangeSpec := { name := "fnExactFlyPathOk", fn := fun _ => fun
  | [d] => { results := [.lit (.bool true)], args := [d] }
  | _ => none }
def fnExactFlyPathOkRow : OpenClaim := { program := "ytfjeiegoblaadaa", sum := "ef521e38a965751959d888107cc4db0d25ecdfc4ed76aaf95e2a47b2d06d960c", func := "loop.example/lapwing/laws.FnExactFlyPathOk", spec := "fnExactFlyPathOk", unfollowed := true, recurses := true, apart := false }
def FnExactFlyPathOkSaid : Prop := fnExactFlyPathOkRow.holds Try.pinned (OpenSpec.ofChange fnExactFlyPathOkSpec)

/-- ITS FALSE NEIGHBOUR: 'it returns false'. Refute it at one input. -/
def fnExactFlyPathOkWrong : ChangeSpec := { name := "fnExactFlyPathOk", fn := fun _ => fun
  | [d] => { results := [.lit (.bool false)], args := [d] }
  | _ => none }
def FnExactFlyPathOkWrongFalsely : Prop := fnExactFlyPathOkRow.holds Try.pinned (OpenSpec.ofChange fnExactFlyPathOkWrong)

/-- 'laws.FnExactFlyLawful': WHATEVER THE INPUT: true; the input reads as it did. -/
def fnExactFlyLawfulSpec : ChangeSpec := { name := "fnExactFlyLawful", fn := fun _ => fun
  | [d1, d2] => { results := [.lit (.bool true)], args := [d1, d2] }
  | _ => none }
def fnExactFlyLawfulRow : OpenClaim := { program := "ytfjeiegoblaadaa", sum := "ef521e38a965751959d888107cc4db0d25ecdfc4ed76aaf95e2a47b2d06d960c", func := "loop.example/lapwing/laws.FnExactFlyLawful", spec := "fnExactFlyLawful", unfollowed := true, recurses := true, apart := false }
def FnExactFlyLawfulSaid : Prop := fnExactFlyLawfulRow.holds Try.pinned (OpenSpec.ofChange fnExactFlyLawfulSpec)

/-- ITS FALSE NEIGHBOUR: 'it returns false'. Refute it at one input. -/
def fnExactFlyLawfulWrong : ChangeSpec := { name := "fnExactFlyLawful", fn := fun _ => fun
  | [d1, d2] => { results := [.lit (.bool false)], args := [d1, d2] }
  | _ => none }
def FnExactFlyLawfulWrongFalsely : Prop := fnExactFlyLawfulRow.holds Try.pinned (OpenSpec.ofChange fnExactFlyLawfulWrong)

/-- 'laws.FnExactFlyWhere': WHATEVER THE INPUT: true; the input reads as it did. -/
def fnExactFlyWhereSpec : ChangeSpec := { name := "fnExactFlyWhere", fn := fun _ => fun
  | [d1, d2] => { results := [.lit (.bool true)], args := [d1, d2] }
  | _ => none }
def fnExactFlyWhereRow : OpenClaim := { program := "ytfjeiegoblaadaa", sum := "ef521e38a965751959d888107cc4db0d25ecdfc4ed76aaf95e2a47b2d06d960c", func := "loop.example/lapwing/laws.FnExactFlyWhere", spec := "fnExactFlyWhere", apart := false }
def FnExactFlyWhereSaid : Prop := fnExactFlyWhereRow.holds Try.pinned (OpenSpec.ofChange fnExactFlyWhereSpec)

/-- ITS FALSE NEIGHBOUR: 'it returns false'. Refute it at one input. -/
def fnExactFlyWhereWrong : ChangeSpec := { name := "fnExactFlyWhere", fn := fun _ => fun
  | [d1, d2] => { results := [.lit (.bool false)], args := [d1, d2] }
  | _ => none }
def FnExactFlyWhereWrongFalsely : Prop := fnExactFlyWhereRow.holds Try.pinned (OpenSpec.ofChange fnExactFlyWhereWrong)

/- THE SECOND FORM. 'bulk': how many values and letters a reading holds, each counted each time it is reached (what is shared counts as often as it is met; a slice's spare places count too). A statement '..UptoSaid' is the law's where the arguments, and the package variables that the reading takes, are together of bulk at most 1048576: NARROWER than '..Said'. Prove '..Said' where nothing that the law and all that it calls make is longer than what came in: it says more and counts as full. Else prove '..UptoSaid'. A law counts once. -/
mutual
def uptoBulk {H : Type} : DataW H → Nat
  | .lit (.string bytes) => bytes.length + 1
  | .lit _ => 1
  | .nil => 1
  | .ptr d => uptoBulk d + 1
  | .slice elems spare => uptoBulkAll elems + uptoBulkAll spare + 1
  | .agg parts => uptoBulkAll parts + 1
  | .iface _ d => uptoBulk d + 1
  | .map entries => uptoBulkEntries entries + 1
  | .held _ => 1
def uptoBulkAll {H : Type} : List (DataW H) → Nat
  | [] => 0
  | d :: r => uptoBulk d + uptoBulkAll r
def uptoBulkEntries {H : Type} : List (Lit × DataW H) → Nat
  | [] => 0
  | x :: r => uptoBulkEntry x + uptoBulkEntries r
def uptoBulkEntry {H : Type} : Lit × DataW H → Nat
  | (.string bytes, d) => bytes.length + uptoBulk d + 1
  | (_, d) => uptoBulk d + 1
 end
def uptoSmall : (H : Type) → List (DataW H) → Bool := fun _ ds => decide (uptoBulkAll ds ≤ 1048576)
def OpenSpec.upto (s : _root_.Go.ChangeSpec) : _root_.Go.OpenSpec := { _root_.Go.OpenSpec.ofChange s with cond := some uptoSmall }

/-- 'laws.FnExactFlyKindOk', WHERE WHAT IT READS IS OF BULK AT MOST 1048576: true; the input reads as it did. -/
def fnExactFlyKindOkUptoRow : OpenClaim := { program := "ytfjeiegoblaadaa", sum := "ef521e38a965751959d888107cc4db0d25ecdfc4ed76aaf95e2a47b2d06d960c", func := "loop.example/lapwing/laws.FnExactFlyKindOk", spec := "fnExactFlyKindOk", apart := false, narrowed := true }
def FnExactFlyKindOkUptoSaid : Prop := fnExactFlyKindOkUptoRow.holds Try.pinned (OpenSpec.upto fnExactFlyKindOkSpec)

/-- 'laws.FnExactFlyPathOk', WHERE WHAT IT READS IS OF BULK AT MOST 1048576: true; the input reads as it did. -/
def fnExactFlyPathOkUptoRow : OpenClaim := { program := "ytfjeiegoblaadaa", sum := "ef521e38a965751959d888107cc4db0d25ecdfc4ed76aaf95e2a47b2d06d960c", func := "loop.example/lapwing/laws.FnExactFlyPathOk", spec := "fnExactFlyPathOk", unfollowed := true, recurses := true, apart := false, narrowed := true }
def FnExactFlyPathOkUptoSaid : Prop := fnExactFlyPathOkUptoRow.holds Try.pinned (OpenSpec.upto fnExactFlyPathOkSpec)

/-- 'laws.FnExactFlyLawful', WHERE WHAT IT READS IS OF BULK AT MOST 1048576: true; the input reads as it did. -/
def fnExactFlyLawfulUptoRow : OpenClaim := { program := "ytfjeiegoblaadaa", sum := "ef521e38a965751959d888107cc4db0d25ecdfc4ed76aaf95e2a47b2d06d960c", func := "loop.example/lapwing/laws.FnExactFlyLawful", spec := "fnExactFlyLawful", unfollowed := true, recurses := true, apart := false, narrowed := true }
def FnExactFlyLawfulUptoSaid : Prop := fnExactFlyLawfulUptoRow.holds Try.pinned (OpenSpec.upto fnExactFlyLawfulSpec)

/-- 'laws.FnExactFlyWhere', WHERE WHAT IT READS IS OF BULK AT MOST 1048576: true; the input reads as it did. -/
def fnExactFlyWhereUptoRow : OpenClaim := { program := "ytfjeiegoblaadaa", sum := "ef521e38a965751959d888107cc4db0d25ecdfc4ed76aaf95e2a47b2d06d960c", func := "loop.example/lapwing/laws.FnExactFlyWhere", spec := "fnExactFlyWhere", apart := false, narrowed := true }
def FnExactFlyWhereUptoSaid : Prop := fnExactFlyWhereUptoRow.holds Try.pinned (OpenSpec.upto fnExactFlyWhereSpec)

end Rows
end Go.Proofs.Ytfjeiegoblaadaa
