/- DERIVED. The step in which a flight is at a tick, on plain data. -/
import Derived.Test.YtfjeiegoblaadaaVInts
import Derived.Test.YtfjeiegoblaadaaPbD
namespace Go.Proofs.Ytfjeiegoblaadaa
namespace Fly
open Go.RowKit
set_option linter.unusedSimpArgs false
set_option linter.unusedVariables false

def InStep (f : List Int) (t : Int) (k : Nat) : Prop := ∃ h : k + 1 < f.length, f[k] ≤ t ∧ t < f[k + 1]
def FirstStep (f : List Int) (t : Int) (k : Nat) : Prop := InStep f t k ∧ ∀ j, j < k → ¬ InStep f t j
open Classical in
noncomputable def whereOf (f : List Int) (t : Int) : Int × Bool := if h : ∃ k, FirstStep f t k then ((Classical.choose h : Nat), true) else (0, false)
theorem where_hit {f : List Int} {t : Int} {k : Nat} (h : InStep f t k) (hn : ∀ j, j < k → ¬ InStep f t j) : whereOf f t = ((k : Int), true) := by
  have he : ∃ k, FirstStep f t k := ⟨k, h, hn⟩
  unfold whereOf
  rw [dif_pos he]
  have hc := Classical.choose_spec he
  generalize Classical.choose he = m at hc
  have : m = k := by
    rcases Nat.lt_trichotomy m k with h1 | h1 | h1
    · exact absurd hc.1 (hn m h1)
    · exact h1
    · exact absurd h (hc.2 k h1)
  rw [this]
theorem where_none {f : List Int} {t : Int} (hn : ∀ j, j + 1 < f.length → ¬ InStep f t j) : whereOf f t = (0, false) := by
  unfold whereOf
  rw [dif_neg]
  rintro ⟨k, h, _⟩
  exact hn k h.1 h

end Fly
end Go.Proofs.Ytfjeiegoblaadaa
