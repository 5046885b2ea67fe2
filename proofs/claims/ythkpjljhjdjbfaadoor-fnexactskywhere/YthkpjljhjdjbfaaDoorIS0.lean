/- DERIVED. The program's small functions over a sky: skyFrom, skyHasCell, skyNameOk: their walks. -/
import Derived.Test.YthkpjljhjdjbfaaDoorSkyD
import Derived.Deep.QuietTactic
import Derived.BigQuiet
namespace Go.Proofs.YthkpjljhjdjbfaaDoor
open Go.RowKit
set_option linter.unusedSimpArgs false
set_option linter.unusedVariables false

theorem from_yes (n lo hi : Int) (w : World) (h : InR n lo hi) :
    Calls Tryd.prog 65 #[.int .i64 n, .int .i64 lo, .int .i64 hi] w fun e w' => e = .returned (.bool true) ∧ w = w' := by
  obtain ⟨h1, h2⟩ := h
  go_enter Tryd.func65, Tryd.ntmps65
  go_wp2
  go_ret
  exact ⟨by simp [h1, h2], rfl⟩

theorem from_no (n lo hi : Int) (w : World) (h : ¬ InR n lo hi) :
    Calls Tryd.prog 65 #[.int .i64 n, .int .i64 lo, .int .i64 hi] w fun e w' => e = .returned (.bool false) ∧ w = w' := by
  by_cases h1 : lo ≤ n
  · have h2 : ¬ n ≤ hi := fun h2 => h ⟨h1, h2⟩
    clear h
    go_enter Tryd.func65, Tryd.ntmps65
    go_wp2
    go_ret
    exact ⟨by simp [h2]; try omega, rfl⟩
  · clear h
    go_enter Tryd.func65, Tryd.ntmps65
    go_wp2
    go_ret
    exact ⟨by simp [h1]; try omega, rfl⟩

/-- A cell of a sky. -/
def InSky (W H x y : Int) : Prop := InR x 0 (W - 1) ∧ InR y 0 (H - 1)
noncomputable def inSkyB (W H x y : Int) : Bool := @decide (InSky W H x y) (Classical.propDecidable _)
theorem inSkyB_iff {W H x y : Int} : inSkyB W H x y = true ↔ InSky W H x y := by unfold inSkyB; simp
theorem inSkyB_yes {W H x y : Int} (h : InSky W H x y) : inSkyB W H x y = true := inSkyB_iff.2 h
theorem inSkyB_no {W H x y : Int} (h : ¬ InSky W H x y) : inSkyB W H x y = false := by
  cases e : inSkyB W H x y
  · rfl
  · exact absurd (inSkyB_iff.1 e) h

set_option maxHeartbeats 1000000 in
theorem hasCell_any (W H L x y : Int) (a b c d : Value) (w : World) (hW : 1 ≤ W ∧ W ≤ 16) (hH : 1 ≤ H ∧ H ≤ 16) :
    Calls Tryd.prog 68 #[.agg #[.int .i64 W, .int .i64 H, .int .i64 L, a, b, c, d], .int .i64 x, .int .i64 y] w fun e w' => e = .returned (.bool (inSkyB W H x y)) ∧ w' = w.alloc (.cells #[.int .i64 W, .int .i64 H, .int .i64 L, a, b, c, d] 38) := by
  obtain ⟨hW1, hW2⟩ := hW
  obtain ⟨hH1, hH2⟩ := hH
  by_cases h1 : InR x 0 (W - 1)
  · by_cases h2 : InR y 0 (H - 1)
    · rw [inSkyB_yes ⟨h1, h2⟩]
      go_enter Tryd.func68, Tryd.ntmps68
      go_wp2_with (go_at_call 65; refine (from_yes _ _ _ _ (by assumption)).mono ?_; rintro e w' ⟨rfl, rfl⟩)
      go_ret
      exact ⟨rfl, rfl⟩
    · rw [inSkyB_no (fun h => h2 h.2)]
      go_enter Tryd.func68, Tryd.ntmps68
      go_wp2_with (first | (go_at_call 65; refine (from_yes _ _ _ _ (by assumption)).mono ?_; rintro e w' ⟨rfl, rfl⟩) | (go_at_call 65; refine (from_no _ _ _ _ (by assumption)).mono ?_; rintro e w' ⟨rfl, rfl⟩))
      go_ret
      exact ⟨rfl, rfl⟩
  · rw [inSkyB_no (fun h => h1 h.1)]
    go_enter Tryd.func68, Tryd.ntmps68
    go_wp2_with (go_at_call 65; refine (from_no _ _ _ _ (by assumption)).mono ?_; rintro e w' ⟨rfl, rfl⟩)
    go_ret
    exact ⟨rfl, rfl⟩

end Go.Proofs.YthkpjljhjdjbfaaDoor
