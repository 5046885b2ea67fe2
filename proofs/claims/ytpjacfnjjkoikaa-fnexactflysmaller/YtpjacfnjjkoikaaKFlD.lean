/- DERIVED. Flights that keep to a path, on plain data. -/
import Derived.Test.YtpjacfnjjkoikaaKFyS1
namespace Go.Proofs.Ytpjacfnjjkoikaa
namespace Fly
open Go.RowKit
set_option linter.unusedSimpArgs false
set_option linter.unusedVariables false

/-- The ticks at which the k-th step may be entered, or the path left. -/
def lowAt (x : DFlyPath) (k : Nat) : Int := match x.2.1[k]? with
  | some s => s.2.2.2.2.1
  | none => x.2.2.1
def highAt (x : DFlyPath) (k : Nat) : Int := match x.2.1[k]? with
  | some s => s.2.2.2.2.2.1
  | none => x.2.2.2
def mostAt (x : DFlyPath) (k : Nat) : Int := match x.2.1[k]? with
  | some s => if s.2.2.2.2.2.2 = true then 10000 else x.1.2
  | none => x.1.2
def Windows (x : DFlyPath) (f : List Int) : Prop := ∀ k (h : k < f.length), InR f[k] (lowAt x k) (highAt x k)
def Stays (x : DFlyPath) (f : List Int) : Prop := ∀ k (h : k + 1 < f.length), InR (f[k + 1] - f[k]) x.1.1 (mostAt x k)
def Lawful (x : DFlyPath) (f : List Int) : Prop := PathOk x ∧ f.length = x.2.1.length + 1 ∧ Windows x f ∧ Stays x f

theorem lowAt_in {x : DFlyPath} {k : Nat} (h : k < x.2.1.length) : lowAt x k = (x.2.1[k]).2.2.2.2.1 := by unfold lowAt; rw [List.getElem?_eq_getElem h]
theorem lowAt_end {x : DFlyPath} {k : Nat} (h : ¬ k < x.2.1.length) : lowAt x k = x.2.2.1 := by unfold lowAt; rw [List.getElem?_eq_none (by omega)]
theorem highAt_in {x : DFlyPath} {k : Nat} (h : k < x.2.1.length) : highAt x k = (x.2.1[k]).2.2.2.2.2.1 := by unfold highAt; rw [List.getElem?_eq_getElem h]
theorem highAt_end {x : DFlyPath} {k : Nat} (h : ¬ k < x.2.1.length) : highAt x k = x.2.2.2 := by unfold highAt; rw [List.getElem?_eq_none (by omega)]
theorem mostAt_in {x : DFlyPath} {k : Nat} (h : k < x.2.1.length) : mostAt x k = if (x.2.1[k]).2.2.2.2.2.2 = true then 10000 else x.1.2 := by unfold mostAt; rw [List.getElem?_eq_getElem h]
/-- Of a path that is ok all ticks lie in 0..10000. -/
theorem win_range {x : DFlyPath} (hp : PathOk x) (k : Nat) : 0 ≤ lowAt x k ∧ highAt x k ≤ 10000 := by
  by_cases h : k < x.2.1.length
  · rw [lowAt_in h, highAt_in h]
    have h1 := hp.2.2.1 k h
    exact ⟨h1.2.2.2.2.2.1, h1.2.2.2.2.2.2.2⟩
  · rw [lowAt_end h, highAt_end h]
    exact ⟨hp.2.2.2.2.1, hp.2.2.2.2.2.2⟩
theorem kind_range {x : DFlyPath} (hp : PathOk x) : 1 ≤ x.1.1 ∧ x.1.1 ≤ x.1.2 ∧ x.1.2 ≤ 50 := hp.1

/-- A path's slices, as a function has it. -/
abbrev PathAt (w : World) (x : DFlyPath) (ao : Option Addr) (cap : Nat) : Prop := SliceAt vFlyStep (old w) w ao cap x.2.1

end Fly
end Go.Proofs.Ytpjacfnjjkoikaa
