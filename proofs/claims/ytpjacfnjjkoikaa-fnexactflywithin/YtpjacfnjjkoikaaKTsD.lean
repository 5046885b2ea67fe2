/- DERIVED. Spans of a path, on plain data. -/
import Derived.Test.YtpjacfnjjkoikaaKFlD
import Derived.Test.YtpjacfnjjkoikaaKRFlySpan
import Derived.Test.YtpjacfnjjkoikaaKRIntD
namespace Go.Proofs.Ytpjacfnjjkoikaa
namespace Fly
open Go.RowKit
set_option linter.unusedSimpArgs false
set_option linter.unusedVariables false

def fmx (a b : Int) : Int := if a < b then b else a
def fmn (a b : Int) : Int := if a < b then a else b
theorem fmx_ge (a b : Int) : a ≤ fmx a b := by unfold fmx; split <;> omega
theorem fmn_le (a b : Int) : fmn a b ≤ a := by unfold fmn; split <;> omega
/-- Forward: what the k-th span is on the way there. -/
def fw (x : DFlyPath) : Nat → Int × Int
  | 0 => (lowAt x 0, highAt x 0)
  | k + 1 => (fmx (lowAt x (k + 1)) ((fw x k).1 + x.1.1), fmn (highAt x (k + 1)) ((fw x k).2 + mostAt x k))
/-- Back: what the span is that is d from the last. -/
def bk (x : DFlyPath) : Nat → Int × Int
  | 0 => fw x x.2.1.length
  | d + 1 => (fmx (fw x (x.2.1.length - (d + 1))).1 ((bk x d).1 - mostAt x (x.2.1.length - (d + 1))), fmn (fw x (x.2.1.length - (d + 1))).2 ((bk x d).2 - x.1.1))
def FwOk (x : DFlyPath) : Prop := ∀ k, k ≤ x.2.1.length → (fw x k).1 ≤ (fw x k).2
def BkOk (x : DFlyPath) : Prop := ∀ d, d ≤ x.2.1.length → (bk x d).1 ≤ (bk x d).2
def spansL (x : DFlyPath) : List RFlySpan := (List.range (x.2.1.length + 1)).map fun k => bk x (x.2.1.length - k)
noncomputable def spansF (x : DFlyPath) : List RFlySpan × Bool := if pb (PathOk x ∧ FwOk x ∧ BkOk x) then (spansL x, true) else ([], false)
theorem spans_yes {x : DFlyPath} (h : PathOk x) (h1 : FwOk x) (h2 : BkOk x) : spansF x = (spansL x, true) := by unfold spansF; rw [if_pos (pb_yes ⟨h, h1, h2⟩)]
theorem spans_no {x : DFlyPath} (h : ¬ (PathOk x ∧ FwOk x ∧ BkOk x)) : spansF x = ([], false) := by unfold spansF; rw [if_neg (by rw [pb_no h]; decide)]
theorem spansL_len (x : DFlyPath) : (spansL x).length = x.2.1.length + 1 := by simp [spansL]
theorem fw_next (x : DFlyPath) (k : Nat) : fw x (k + 1) = (fmx (lowAt x (k + 1)) ((fw x k).1 + x.1.1), fmn (highAt x (k + 1)) ((fw x k).2 + mostAt x k)) := rfl
/-- Forward spans that are not empty lie in 0..10000. -/
theorem fw_range {x : DFlyPath} (hp : PathOk x) : ∀ k, (∀ j, j ≤ k → (fw x j).1 ≤ (fw x j).2) → 0 ≤ (fw x k).1 ∧ (fw x k).2 ≤ 10000
  | 0, _ => ⟨(win_range hp 0).1, (win_range hp 0).2⟩
  | k + 1, h => by
    have hr := win_range hp (k + 1)
    rw [fw_next]
    exact ⟨Int.le_trans hr.1 (fmx_ge _ _), Int.le_trans (fmn_le _ _) hr.2⟩
theorem spansF_len {x : DFlyPath} (hn : x.2.1.length ≤ 40) : (spansF x).1.length ≤ 41 := by
  by_cases h : PathOk x ∧ FwOk x ∧ BkOk x
  · rw [spans_yes h.1 h.2.1 h.2.2]
    show (spansL x).length ≤ 41
    rw [spansL_len]; omega
  · rw [spans_no h]; simp

/-- What FlySpans gives. -/
def GivesSp (L : List RFlySpan) (ok : Bool) (w : World) (e : Ending) (w' : World) : Prop := ∃ so sc, e = .returned (.tuple #[.slice so L.length sc, .bool ok]) ∧ w'.ownsRow w.heap.size 65 2 (.slice so L.length sc) L.length (valsFlySpan L) ∧ Below w.heap.size w w'

end Fly
end Go.Proofs.Ytpjacfnjjkoikaa
