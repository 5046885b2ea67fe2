/- DERIVED. The three lists of a book of plans, as a law holds them. -/
import Derived.Test.YtohgkiljdehefaaGreatVPlanBook
import Derived.Test.YtohgkiljdehefaaGreatPlL0
namespace Go.Proofs.YtohgkiljdehefaaGreat
open Go.RowKit
set_option linter.unusedSimpArgs false
set_option linter.unusedVariables false

structure BookAt (w : World) (x : DPlanBook) (ao0 : Option Addr) (cap0 : Nat) (ao1 : Option Addr) (cap1 : Nat) (ao2 : Option Addr) (cap2 : Nat) : Prop where
  p0 : SliceAt vPlanKind (old w) w ao0 cap0 x.1.1
  p1 : SliceAt vPlanPoint (old w) w ao1 cap1 x.1.2
  p2 : SliceAt vPlanEntry (old w) w ao2 cap2 x.2
theorem BookAt.later {w w' : World} {x : DPlanBook} {ao0 : Option Addr} {cap0 : Nat} {ao1 : Option Addr} {cap1 : Nat} {ao2 : Option Addr} {cap2 : Nat} (h : BookAt w x ao0 cap0 ao1 cap1 ao2 cap2) (hb : Below w.heap.size w w') : BookAt w' x ao0 cap0 ao1 cap1 ao2 cap2 := ⟨h.p0.later hb, h.p1.later hb, h.p2.later hb⟩
theorem BookAt.base {w : World} {x : DPlanBook} {ao0 : Option Addr} {cap0 : Nat} {ao1 : Option Addr} {cap1 : Nat} {ao2 : Option Addr} {cap2 : Nat} (h : BookAt w x ao0 cap0 ao1 cap1 ao2 cap2) : BaseAt w x.1 ao0 cap0 ao1 cap1 := ⟨h.p0, h.p1⟩
theorem bookAt_of {w w' : World} {x : DPlanBook} {ao0 : Option Addr} {cap0 : Nat} {ao1 : Option Addr} {cap1 : Nat} {ao2 : Option Addr} {cap2 : Nat} (p0 : SliceAt vPlanKind (fresh w w') w' ao0 cap0 x.1.1) (p1 : SliceAt vPlanPoint (fresh w w') w' ao1 cap1 x.1.2) (p2 : SliceAt vPlanEntry (fresh w w') w' ao2 cap2 x.2) : BookAt w' x ao0 cap0 ao1 cap1 ao2 cap2 :=
  ⟨p0.mono fresh_old, p1.mono fresh_old, p2.mono fresh_old⟩

end Go.Proofs.YtohgkiljdehefaaGreat
