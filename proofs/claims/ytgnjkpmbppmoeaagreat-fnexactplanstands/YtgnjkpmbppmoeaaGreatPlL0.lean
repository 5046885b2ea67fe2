/- DERIVED. The two lists of a base of plans, as a law holds them. -/
import Derived.Test.YtgnjkpmbppmoeaaGreatGVa
import Derived.Test.YtgnjkpmbppmoeaaGreatGXa
namespace Go.Proofs.YtgnjkpmbppmoeaaGreat
open Go.RowKit
set_option linter.unusedSimpArgs false
set_option linter.unusedVariables false

structure BaseAt (w : World) (x : DPlanBase) (ao0 : Option Addr) (cap0 : Nat) (ao1 : Option Addr) (cap1 : Nat) : Prop where
  p0 : SliceAt vPlanKind (old w) w ao0 cap0 x.1
  p1 : SliceAt vPlanPoint (old w) w ao1 cap1 x.2
theorem BaseAt.later {w w' : World} {x : DPlanBase} {ao0 : Option Addr} {cap0 : Nat} {ao1 : Option Addr} {cap1 : Nat} (h : BaseAt w x ao0 cap0 ao1 cap1) (hb : Below w.heap.size w w') : BaseAt w' x ao0 cap0 ao1 cap1 := ⟨h.p0.later hb, h.p1.later hb⟩
theorem baseAt_of {w w' : World} {x : DPlanBase} {ao0 : Option Addr} {cap0 : Nat} {ao1 : Option Addr} {cap1 : Nat} (p0 : SliceAt vPlanKind (fresh w w') w' ao0 cap0 x.1) (p1 : SliceAt vPlanPoint (fresh w w') w' ao1 cap1 x.2) : BaseAt w' x ao0 cap0 ao1 cap1 :=
  ⟨p0.mono fresh_old, p1.mono fresh_old⟩

end Go.Proofs.YtgnjkpmbppmoeaaGreat
