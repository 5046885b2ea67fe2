/-
  No cell of these rows narrows 'for every input' (looked for: loops, veiled, ifaces, maps, wideKeys, modest, calm, conditions, laid).
  DERIVED. THE GIVEN ROWS OF THIS SEAT. 4 by the template 'for every input the law returns true; each argument reads behind the call as it read before'; 0 by the template 'total and deterministic' (their statements: YtgbfiffphapdaaaGreatTotals.lean).
  GIVEN WITH THE SEED: the statements are not yours to turn. If you find one false, say at which input.
  Laid BY PROGRAM, IN A SANDBOX (cutbox-rows.mjs): the forced cells as the released guide's own fill.sh prints them over the translation 8095daebfcbb3159… (all of the seat's roots in one cut). By AI agents, Wed Nov 11 2026. No macro, syntax, notation, axiom, sorry.
-/
import Derived.Test.YtgbfiffphapdaaaGreatChecked
import GoSem.Claim
import GoSem.ClaimJoined
import GoSem.ClaimMapViews
import Derived.JoinedTies
import Derived.KernelRfl
namespace Go.Proofs.YtgbfiffphapdaaaGreat
/- THE CELL 'sum', in the pinned program and in every row, IS THE sha256 OF THE DUMP (.gsa) THAT YtgbfiffphapdaaaGreatProg.lean LOADS. Nothing in Lean hashes anything: it is a label: what it is worth is what the hold of that sum in a sandbox is worth. -/
noncomputable def Tryz.pinned : Pinned := { name := "ytgbfiffphapdaaagreat", sum := "8095daebfcbb315933c3b076f66064e1299145a5822180ce03ade027bb132280", checked := Tryz.checked }
namespace Rows
def none {H : Type} : Left H := { results := [], args := [] }

/-- 'laws.FnExactPlanNews': WHATEVER THE INPUT: true; the input reads as it did. -/
def fnExactPlanNewsSpec : ChangeSpec := { name := "fnExactPlanNews", fn := fun _ => fun
  | [d1, d2] => { results := [.lit (.bool true)], args := [d1, d2] }
  | _ => none }
def fnExactPlanNewsRow : OpenClaim := { program := "ytgbfiffphapdaaagreat", sum := "8095daebfcbb315933c3b076f66064e1299145a5822180ce03ade027bb132280", func := "loop.example/lapwing/laws.FnExactPlanNews", spec := "fnExactPlanNews", unfollowed := true, recurses := true, plainKeys := false, apart := false }
def FnExactPlanNewsSaid : Prop := fnExactPlanNewsRow.holds Tryz.pinned (OpenSpec.ofChange fnExactPlanNewsSpec)

/-- ITS FALSE NEIGHBOUR: 'it returns false'. Refute it at one input. -/
def fnExactPlanNewsWrong : ChangeSpec := { name := "fnExactPlanNews", fn := fun _ => fun
  | [d1, d2] => { results := [.lit (.bool false)], args := [d1, d2] }
  | _ => none }
def FnExactPlanNewsWrongFalsely : Prop := fnExactPlanNewsRow.holds Tryz.pinned (OpenSpec.ofChange fnExactPlanNewsWrong)

/-- 'laws.FnExactPlanTake': WHATEVER THE INPUT: true; the input reads as it did. -/
def fnExactPlanTakeSpec : ChangeSpec := { name := "fnExactPlanTake", fn := fun _ => fun
  | [d1, d2] => { results := [.lit (.bool true)], args := [d1, d2] }
  | _ => none }
def fnExactPlanTakeRow : OpenClaim := { program := "ytgbfiffphapdaaagreat", sum := "8095daebfcbb315933c3b076f66064e1299145a5822180ce03ade027bb132280", func := "loop.example/lapwing/laws.FnExactPlanTake", spec := "fnExactPlanTake", unfollowed := true, recurses := true, plainKeys := false, apart := false }
def FnExactPlanTakeSaid : Prop := fnExactPlanTakeRow.holds Tryz.pinned (OpenSpec.ofChange fnExactPlanTakeSpec)

/-- ITS FALSE NEIGHBOUR: 'it returns false'. Refute it at one input. -/
def fnExactPlanTakeWrong : ChangeSpec := { name := "fnExactPlanTake", fn := fun _ => fun
  | [d1, d2] => { results := [.lit (.bool false)], args := [d1, d2] }
  | _ => none }
def FnExactPlanTakeWrongFalsely : Prop := fnExactPlanTakeRow.holds Tryz.pinned (OpenSpec.ofChange fnExactPlanTakeWrong)

/-- 'laws.FnExactPlanMerge': WHATEVER THE INPUT: true; the input reads as it did. -/
def fnExactPlanMergeSpec : ChangeSpec := { name := "fnExactPlanMerge", fn := fun _ => fun
  | [d1, d2] => { results := [.lit (.bool true)], args := [d1, d2] }
  | _ => none }
def fnExactPlanMergeRow : OpenClaim := { program := "ytgbfiffphapdaaagreat", sum := "8095daebfcbb315933c3b076f66064e1299145a5822180ce03ade027bb132280", func := "loop.example/lapwing/laws.FnExactPlanMerge", spec := "fnExactPlanMerge", unfollowed := true, recurses := true, plainKeys := false, apart := false }
def FnExactPlanMergeSaid : Prop := fnExactPlanMergeRow.holds Tryz.pinned (OpenSpec.ofChange fnExactPlanMergeSpec)

/-- ITS FALSE NEIGHBOUR: 'it returns false'. Refute it at one input. -/
def fnExactPlanMergeWrong : ChangeSpec := { name := "fnExactPlanMerge", fn := fun _ => fun
  | [d1, d2] => { results := [.lit (.bool false)], args := [d1, d2] }
  | _ => none }
def FnExactPlanMergeWrongFalsely : Prop := fnExactPlanMergeRow.holds Tryz.pinned (OpenSpec.ofChange fnExactPlanMergeWrong)

/-- 'laws.FnExactPlanTakeAll': WHATEVER THE INPUT: true; the input reads as it did. -/
def fnExactPlanTakeAllSpec : ChangeSpec := { name := "fnExactPlanTakeAll", fn := fun _ => fun
  | [d1, d2] => { results := [.lit (.bool true)], args := [d1, d2] }
  | _ => none }
def fnExactPlanTakeAllRow : OpenClaim := { program := "ytgbfiffphapdaaagreat", sum := "8095daebfcbb315933c3b076f66064e1299145a5822180ce03ade027bb132280", func := "loop.example/lapwing/laws.FnExactPlanTakeAll", spec := "fnExactPlanTakeAll", unfollowed := true, recurses := true, plainKeys := false, apart := false }
def FnExactPlanTakeAllSaid : Prop := fnExactPlanTakeAllRow.holds Tryz.pinned (OpenSpec.ofChange fnExactPlanTakeAllSpec)

/-- ITS FALSE NEIGHBOUR: 'it returns false'. Refute it at one input. -/
def fnExactPlanTakeAllWrong : ChangeSpec := { name := "fnExactPlanTakeAll", fn := fun _ => fun
  | [d1, d2] => { results := [.lit (.bool false)], args := [d1, d2] }
  | _ => none }
def FnExactPlanTakeAllWrongFalsely : Prop := fnExactPlanTakeAllRow.holds Tryz.pinned (OpenSpec.ofChange fnExactPlanTakeAllWrong)

/- THE SECOND FORM. 'bulk': how many values and letters a reading holds, each counted each time it is reached (what is shared counts as often as it is met; a slice's spare places count too). A statement '..UptoSaid' is the law's where the arguments, and the package variables that the reading takes, are together of bulk at most 1048576: NARROWER than '..Said'. Prove '..Said' where nothing that the law and all that it calls make is longer than what came in: it says more and counts as full. Else prove '..UptoSaid'. A law counts once. -/
mutual
def uptoBulk {H : Type} : DataW H → Nat
  | .lit (.string bytes) => bytes.length + 1
  | .lit _ => 1
  | .nil => 1
  | .ptr d => uptoBulk d + 1
  | .slice elems spare => uptoBulkAll elems + uptoBulkAll spare + 1
  | .agg parts => uptoBulkAll parts + 1
  | .iface _ d => uptoBulk d + 1
  | .map entries => uptoBulkEntries entries + 1
  | .held _ => 1
def uptoBulkAll {H : Type} : List (DataW H) → Nat
  | [] => 0
  | d :: r => uptoBulk d + uptoBulkAll r
def uptoBulkEntries {H : Type} : List (Lit × DataW H) → Nat
  | [] => 0
  | x :: r => uptoBulkEntry x + uptoBulkEntries r
def uptoBulkEntry {H : Type} : Lit × DataW H → Nat
  | (.string bytes, d) => bytes.length + uptoBulk d + 1
  | (_, d) => uptoBulk d + 1
 end
def uptoSmall : (H : Type) → List (DataW H) → Bool := fun _ ds => decide (uptoBulkAll ds ≤ 1048576)
def OpenSpec.upto (s : _root_.Go.ChangeSpec) : _root_.Go.OpenSpec := { _root_.Go.OpenSpec.ofChange s with cond := some uptoSmall }

/-- 'laws.FnExactPlanNews', WHERE WHAT IT READS IS OF BULK AT MOST 1048576: true; the input reads as it did. -/
def fnExactPlanNewsUptoRow : OpenClaim := { program := "ytgbfiffphapdaaagreat", sum := "8095daebfcbb315933c3b076f66064e1299145a5822180ce03ade027bb132280", func := "loop.example/lapwing/laws.FnExactPlanNews", spec := "fnExactPlanNews", unfollowed := true, recurses := true, plainKeys := false, apart := false, narrowed := true }
def FnExactPlanNewsUptoSaid : Prop := fnExactPlanNewsUptoRow.holds Tryz.pinned (OpenSpec.upto fnExactPlanNewsSpec)

/-- 'laws.FnExactPlanTake', WHERE WHAT IT READS IS OF BULK AT MOST 1048576: true; the input reads as it did. -/
def fnExactPlanTakeUptoRow : OpenClaim := { program := "ytgbfiffphapdaaagreat", sum := "8095daebfcbb315933c3b076f66064e1299145a5822180ce03ade027bb132280", func := "loop.example/lapwing/laws.FnExactPlanTake", spec := "fnExactPlanTake", unfollowed := true, recurses := true, plainKeys := false, apart := false, narrowed := true }
def FnExactPlanTakeUptoSaid : Prop := fnExactPlanTakeUptoRow.holds Tryz.pinned (OpenSpec.upto fnExactPlanTakeSpec)

/-- 'laws.FnExactPlanMerge', WHERE WHAT IT READS IS OF BULK AT MOST 1048576: true; the input reads as it did. -/
def fnExactPlanMergeUptoRow : OpenClaim := { program := "ytgbfiffphapdaaagreat", sum := "8095daebfcbb315933c3b076f66064e1299145a5822180ce03ade027bb132280", func := "loop.example/lapwing/laws.FnExactPlanMerge", spec := "fnExactPlanMerge", unfollowed := true, recurses := true, plainKeys := false, apart := false, narrowed := true }
def FnExactPlanMergeUptoSaid : Prop := fnExactPlanMergeUptoRow.holds Tryz.pinned (OpenSpec.upto fnExactPlanMergeSpec)

/-- 'laws.FnExactPlanTakeAll', WHERE WHAT IT READS IS OF BULK AT MOST 1048576: true; the input reads as it did. -/
def fnExactPlanTakeAllUptoRow : OpenClaim := { program := "ytgbfiffphapdaaagreat", sum := "8095daebfcbb315933c3b076f66064e1299145a5822180ce03ade027bb132280", func := "loop.example/lapwing/laws.FnExactPlanTakeAll", spec := "fnExactPlanTakeAll", unfollowed := true, recurses := true, plainKeys := false, apart := false, narrowed := true }
def FnExactPlanTakeAllUptoSaid : Prop := fnExactPlanTakeAllUptoRow.holds Tryz.pinned (OpenSpec.upto fnExactPlanTakeAllSpec)

end Rows
end Go.Proofs.YtgbfiffphapdaaaGreat
