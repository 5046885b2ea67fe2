/- DERIVED. How far two numbers are apart (impl.skyDistance): its walk. -/
import Derived.Test.YtpjacfnjjkoikaaRows
import Derived.WalkKit
import Derived.WalkSpells
import Derived.WalkLawsBesides
import Derived.Deep.QuietTactic
import Derived.BigQuiet
namespace Go.Proofs.Ytpjacfnjjkoikaa
open Go.RowKit
set_option linter.unusedSimpArgs false
set_option linter.unusedVariables false

def Whole (x : Int) : Prop := -9223372036854775808 ≤ x ∧ x ≤ 9223372036854775807
def apartOf (a b : Int) : Int := if a ≤ b then b - a else a - b

theorem dist_any (a b : Int) (w : World) (ha : Whole a) (hb : Whole b) :
    Calls Try.prog 97 #[.int .i64 a, .int .i64 b] w fun e w' => e = .returned (.int .u64 (apartOf a b)) ∧ w = w' := by
  obtain ⟨ha1, ha2⟩ := ha
  obtain ⟨hb1, hb2⟩ := hb
  rcases Int.lt_trichotomy a b with h | h | h
  · have e : apartOf a b = b - a := by unfold apartOf; split <;> omega
    rw [e]
    clear e
    go_enter Try.func97, Try.ntmps97
    go_wp2
    go_ret
    exact ⟨congrArg (fun z => Ending.returned (Value.int .u64 z)) (by simp [IntKind.wrap, IntKind.bits, IntKind.signed]; omega), rfl⟩
  · subst h
    have e : apartOf a a = 0 := by unfold apartOf; split <;> omega
    rw [e]
    clear e
    go_enter Try.func97, Try.ntmps97
    go_wp2
    go_ret
    exact ⟨rfl, rfl⟩
  · have e : apartOf a b = a - b := by unfold apartOf; split <;> omega
    rw [e]
    clear e
    go_enter Try.func97, Try.ntmps97
    go_wp2
    go_ret
    exact ⟨congrArg (fun z => Ending.returned (Value.int .u64 z)) (by simp [IntKind.wrap, IntKind.bits, IntKind.signed]; omega), rfl⟩

end Go.Proofs.Ytpjacfnjjkoikaa
