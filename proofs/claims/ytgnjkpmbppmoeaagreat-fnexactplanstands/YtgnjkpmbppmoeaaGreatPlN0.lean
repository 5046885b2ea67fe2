/- DERIVED. impl.planNameOk: its walk. -/
import Derived.Test.YtgnjkpmbppmoeaaGreatGXa
import Derived.Test.YtgnjkpmbppmoeaaGreatGNm
namespace Go.Proofs.YtgnjkpmbppmoeaaGreat
open Go.RowKit
set_option linter.unusedSimpArgs false
set_option linter.unusedVariables false

theorem iName (s : ByteArray) (w : World) (hs : s.size ≤ maxLen) :
    Calls Tryz.prog 115 #[.string s] w fun e w' => e = .returned (.bool (pb (NameOk s))) ∧ Below w.heap.size w w' := by
  have hs2 : s.size ≤ 9223372036854775807 := hs
  by_cases h1 : s.size ≤ 8
  · have h1I : (s.size : Int) ≤ 8 := by omega
    by_cases h2 : NameOk s
    · have HR : Hid (pb (NameOk s) = true) := pb_yes h2
      go_enter Tryz.func115, Tryz.ntmps115
      go_wp2_with fail
      refine (iNameOk_yes s _ hs h2).mono ?_
      rintro e w' ⟨rfl, hb⟩
      clear h2
      go_wp2
      go_ret
      exact ⟨by rw [HR.out]; rfl, hb⟩
    · have HR : Hid (pb (NameOk s) = false) := pb_no h2
      go_enter Tryz.func115, Tryz.ntmps115
      go_wp2_with fail
      refine (iNameOk_no s _ hs h2).mono ?_
      rintro e w' ⟨rfl, hb⟩
      clear h2
      go_wp2
      go_ret
      exact ⟨by rw [HR.out]; rfl, hb⟩
  · have HR : Hid (pb (NameOk s) = false) := pb_no (fun h => h1 h.2.1)
    have h1I : ¬ (s.size : Int) ≤ 8 := by omega
    go_enter Tryz.func115, Tryz.ntmps115
    go_wp2_with fail
    go_ret
    exact ⟨by rw [HR.out]; try simp [h1I], Below.refl _ _⟩

end Go.Proofs.YtgnjkpmbppmoeaaGreat
