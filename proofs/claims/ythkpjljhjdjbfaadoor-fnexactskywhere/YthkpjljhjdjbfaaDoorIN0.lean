/- DERIVED. Names that ascend, on plain data; impl.skyNameOk by its answer. -/
import Derived.Test.YthkpjljhjdjbfaaDoorIS1
import Derived.Test.YthkpjljhjdjbfaaDoorIB0
namespace Go.Proofs.YthkpjljhjdjbfaaDoor
open Go.RowKit
set_option linter.unusedSimpArgs false
set_option linter.unusedVariables false

/-- The first k of a list have names, which ascend. -/
def NamesTo {α : Type} (nm : α → ByteArray) (l : List α) (k : Nat) : Prop := ∀ j (h : j < l.length), j < k → NameOk (nm (l[j]'h)) ∧ ∀ h0 : 0 < j, SLess (nm (l[j - 1]'(by omega))) (nm (l[j]'h))

theorem iNameOk_yes (s : ByteArray) (w : World) (hs : s.size ≤ maxLen) (h : NameOk s) : Calls Tryd.prog 82 #[.string s] w fun e w' => e = .returned (.bool true) ∧ Below w.heap.size w w' :=
  (iNameOk_both s w hs).mono fun e w' h1 => ⟨by
    rcases h1.1 with h2 | h2
    · exact h2.2
    · exact absurd h h2.1, h1.2⟩
theorem iNameOk_no (s : ByteArray) (w : World) (hs : s.size ≤ maxLen) (h : ¬ NameOk s) : Calls Tryd.prog 82 #[.string s] w fun e w' => e = .returned (.bool false) ∧ Below w.heap.size w w' :=
  (iNameOk_both s w hs).mono fun e w' h1 => ⟨by
    rcases h1.1 with h2 | h2
    · exact absurd h2.1 h
    · exact h2.2, h1.2⟩

end Go.Proofs.YthkpjljhjdjbfaaDoor
