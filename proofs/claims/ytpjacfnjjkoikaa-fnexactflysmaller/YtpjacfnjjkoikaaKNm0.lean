/- DERIVED. impl.skyFrom: its walk. -/
import Derived.Test.YtpjacfnjjkoikaaRows
import Derived.Test.YtpjacfnjjkoikaaKNmD
import Derived.Deep.QuietTactic
import Derived.BigQuiet
namespace Go.Proofs.Ytpjacfnjjkoikaa
open Go.RowKit
set_option linter.unusedSimpArgs false
set_option linter.unusedVariables false

theorem from_yes (n lo hi : Int) (w : World) (h : InR n lo hi) :
    Calls Try.prog 90 #[.int .i64 n, .int .i64 lo, .int .i64 hi] w fun e w' => e = .returned (.bool true) ∧ w = w' := by
  obtain ⟨h1, h2⟩ := h
  go_enter Try.func90, Try.ntmps90
  go_wp2
  go_ret
  exact ⟨by simp [h1, h2], rfl⟩

theorem from_no (n lo hi : Int) (w : World) (h : ¬ InR n lo hi) :
    Calls Try.prog 90 #[.int .i64 n, .int .i64 lo, .int .i64 hi] w fun e w' => e = .returned (.bool false) ∧ w = w' := by
  by_cases h1 : lo ≤ n
  · have h2 : ¬ n ≤ hi := fun h2 => h ⟨h1, h2⟩
    clear h
    go_enter Try.func90, Try.ntmps90
    go_wp2
    go_ret
    exact ⟨by simp [h2]; try omega, rfl⟩
  · clear h
    go_enter Try.func90, Try.ntmps90
    go_wp2
    go_ret
    exact ⟨by simp [h1]; try omega, rfl⟩

end Go.Proofs.Ytpjacfnjjkoikaa
