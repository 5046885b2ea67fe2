/- DERIVED. Kinds, steps and paths of flying on plain data. -/
import Derived.Test.YtpjacfnjjkoikaaKGVa
import Derived.Test.YtpjacfnjjkoikaaKPbD
import Derived.Test.YtpjacfnjjkoikaaKNmD
namespace Go.Proofs.Ytpjacfnjjkoikaa
namespace Fly
open Go.RowKit
set_option linter.unusedSimpArgs false
set_option linter.unusedVariables false

def KindOk (k : DFlyKind) : Prop := 1 ≤ k.1 ∧ k.1 ≤ k.2 ∧ k.2 ≤ 50
def TicksOk (a b : Int) : Prop := 0 ≤ a ∧ a ≤ b ∧ b ≤ 10000
def StepOk (s : DFlyStep) : Prop := InR s.1 0 15 ∧ InR s.2.1 0 15 ∧ 0 ≤ s.2.2.1 ∧ s.2.2.1 ≤ s.2.2.2.1 ∧ s.2.2.2.1 ≤ 6 ∧ TicksOk s.2.2.2.2.1 s.2.2.2.2.2.1
/-- Whether a step can stand right behind another one: next to it, on a level that both have. -/
def StepBy (a b : DFlyStep) : Prop := InR (a.1 - b.1) (-1) 1 ∧ InR (a.2.1 - b.2.1) (-1) 1 ∧ (a.1 ≠ b.1 ∨ a.2.1 ≠ b.2.1) ∧ a.2.2.1 ≤ b.2.2.2.1 ∧ b.2.2.1 ≤ a.2.2.2.1
def AllOk (l : List DFlyStep) : Prop := ∀ i (h : i < l.length), StepOk l[i]
def AllBy (l : List DFlyStep) : Prop := ∀ i (h : i + 1 < l.length), StepBy l[i] l[i + 1]
def PathOk (x : DFlyPath) : Prop := KindOk x.1 ∧ (1 ≤ x.2.1.length ∧ x.2.1.length ≤ 40) ∧ AllOk x.2.1 ∧ AllBy x.2.1 ∧ TicksOk x.2.2.1 x.2.2.2

def vKi (k : DFlyKind) : Value := .agg #[.int .i64 k.1, .int .i64 k.2]
def cSt (s : DFlyStep) : Array Value := #[.int .i64 s.1, .int .i64 s.2.1, .int .i64 s.2.2.1, .int .i64 s.2.2.2.1, .int .i64 s.2.2.2.2.1, .int .i64 s.2.2.2.2.2.1, .bool s.2.2.2.2.2.2]
def vSt (s : DFlyStep) : Value := .agg (cSt s)
def cPa (x : DFlyPath) (ao : Option Addr) (cap : Nat) : Array Value := #[.int .i64 x.1.1, .int .i64 x.1.2, .slice ao x.2.1.length cap, .int .i64 x.2.2.1, .int .i64 x.2.2.2]

end Fly
end Go.Proofs.Ytpjacfnjjkoikaa
