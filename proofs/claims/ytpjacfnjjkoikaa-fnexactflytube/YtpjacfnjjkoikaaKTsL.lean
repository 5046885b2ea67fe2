/- DERIVED. Stage 10's functions on paths, both sides, as their laws want them (written by wip/tools/mk_law10.py). -/
import Derived.Test.YtpjacfnjjkoikaaKS24a
import Derived.Test.YtpjacfnjjkoikaaKWkI6
import Derived.Test.YtpjacfnjjkoikaaKWkI7
import Derived.Test.YtpjacfnjjkoikaaKRInt
import Derived.Test.YtpjacfnjjkoikaaKGMa
namespace Go.Proofs.Ytpjacfnjjkoikaa
namespace Fly
open Go.RowKit
set_option linter.unusedSimpArgs false
set_option linter.unusedVariables false

theorem spansF_le (x : DFlyPath) : (spansF x).1.length ≤ 41 := by
  by_cases h : PathOk x ∧ FwOk x ∧ BkOk x
  · rw [spans_yes h.1 h.2.1 h.2.2]
    have := h.1.2.1.2
    show (spansL x).length ≤ 41
    rw [spansL_len]; omega
  · rw [spans_no h]; simp
theorem spansF_n {x : DFlyPath} (h : (spansF x).2 = true) : (spansF x).1.length = x.2.1.length + 1 ∧ x.2.1.length ≤ 40 := by
  by_cases hp : PathOk x ∧ FwOk x ∧ BkOk x
  · rw [spans_yes hp.1 hp.2.1 hp.2.2]
    exact ⟨spansL_len x, hp.1.2.1.2⟩
  · rw [spans_no hp] at h; cases h
theorem tubeF_le (x : DFlyPath) : (tubeOf x (spansF x).1 (spansF x).2).length ≤ 40 := by
  unfold tubeOf
  cases h : (spansF x).2
  · simp
  · rw [if_pos rfl, tubeL_len]; exact (spansF_n h).2
theorem sGiv (x : DFlyPath) (ao : Option Addr) (cap : Nat) (w : World) (h : PathAt w x ao cap) : Calls Try.prog 10 #[.agg #[.int .i64 x.1.1, .int .i64 x.1.2, .slice ao x.2.1.length cap, .int .i64 x.2.2.1, .int .i64 x.2.2.2]] w (GivesSp (spansF x).1 (spansF x).2 w) :=
  sSpans x ao cap w h fun hp W hW => by
    have h1 := sSpans24 x ao cap W hW (narrow_ok hp) hp.1 hp.2.1.2
    rw [spG_ok hp] at h1
    exact h1
theorem sSpansA (x : DFlyPath) (ao : Option Addr) (cap : Nat) (w : World) (h : PathAt w x ao cap) : Calls Try.prog 10 #[.agg #[.int .i64 x.1.1, .int .i64 x.1.2, .slice ao x.2.1.length cap, .int .i64 x.2.2.1, .int .i64 x.2.2.2]] w fun e w' => ∃ bo bc, e = .returned (.tuple #[.slice bo (spansF x).1.length bc, .bool (spansF x).2]) ∧ w'.ownsRow w.heap.size 65 2 (.slice bo (spansF x).1.length bc) (spansF x).1.length (valsFlySpan (spansF x).1) ∧ Below w.heap.size w w' := by have h1 := sGiv x ao cap w h; unfold GivesSp at h1; exact h1
theorem iSpansA (x : DFlyPath) (ao : Option Addr) (cap : Nat) (w : World) (h : PathAt w x ao cap) : Calls Try.prog 12 #[.agg #[.int .i64 x.1.1, .int .i64 x.1.2, .slice ao x.2.1.length cap, .int .i64 x.2.2.1, .int .i64 x.2.2.2]] w fun e w' => ∃ bo bc, e = .returned (.tuple #[.slice bo (spansF x).1.length bc, .bool (spansF x).2]) ∧ w'.ownsRow w.heap.size 65 2 (.slice bo (spansF x).1.length bc) (spansF x).1.length (valsFlySpan (spansF x).1) ∧ Below w.heap.size w w' := by have h1 := iSpans x ao cap w h; unfold GivesSp at h1; exact h1
theorem sFirstA (x : DFlyPath) (ao : Option Addr) (cap : Nat) (w : World) (h : PathAt w x ao cap) : Calls Try.prog 18 #[.agg #[.int .i64 x.1.1, .int .i64 x.1.2, .slice ao x.2.1.length cap, .int .i64 x.2.2.1, .int .i64 x.2.2.2]] w fun e w' => ∃ bo bc, e = .returned (.slice bo ((spansF x).1.map (·.1)).length bc) ∧ w'.ownsRow w.heap.size 3 1 (.slice bo ((spansF x).1.map (·.1)).length bc) ((spansF x).1.map (·.1)).length (valsInt ((spansF x).1.map (·.1))) ∧ Below w.heap.size w w' := sFirst _ _ x ao cap w h (Nat.le_trans (spansF_le x) (by omega)) fun W hW => sGiv x ao cap W hW
theorem iFirstA (x : DFlyPath) (ao : Option Addr) (cap : Nat) (w : World) (h : PathAt w x ao cap) : Calls Try.prog 19 #[.agg #[.int .i64 x.1.1, .int .i64 x.1.2, .slice ao x.2.1.length cap, .int .i64 x.2.2.1, .int .i64 x.2.2.2]] w fun e w' => ∃ bo bc, e = .returned (.slice bo ((spansF x).1.map (·.1)).length bc) ∧ w'.ownsRow w.heap.size 3 1 (.slice bo ((spansF x).1.map (·.1)).length bc) ((spansF x).1.map (·.1)).length (valsInt ((spansF x).1.map (·.1))) ∧ Below w.heap.size w w' := iFirst x ao cap w h (Nat.le_trans (spansF_le x) (by omega))
theorem sLastA (x : DFlyPath) (ao : Option Addr) (cap : Nat) (w : World) (h : PathAt w x ao cap) : Calls Try.prog 23 #[.agg #[.int .i64 x.1.1, .int .i64 x.1.2, .slice ao x.2.1.length cap, .int .i64 x.2.2.1, .int .i64 x.2.2.2]] w fun e w' => ∃ bo bc, e = .returned (.slice bo ((spansF x).1.map (·.2)).length bc) ∧ w'.ownsRow w.heap.size 3 1 (.slice bo ((spansF x).1.map (·.2)).length bc) ((spansF x).1.map (·.2)).length (valsInt ((spansF x).1.map (·.2))) ∧ Below w.heap.size w w' := sLast _ _ x ao cap w h (Nat.le_trans (spansF_le x) (by omega)) fun W hW => sGiv x ao cap W hW
theorem iLastA (x : DFlyPath) (ao : Option Addr) (cap : Nat) (w : World) (h : PathAt w x ao cap) : Calls Try.prog 24 #[.agg #[.int .i64 x.1.1, .int .i64 x.1.2, .slice ao x.2.1.length cap, .int .i64 x.2.2.1, .int .i64 x.2.2.2]] w fun e w' => ∃ bo bc, e = .returned (.slice bo ((spansF x).1.map (·.2)).length bc) ∧ w'.ownsRow w.heap.size 3 1 (.slice bo ((spansF x).1.map (·.2)).length bc) ((spansF x).1.map (·.2)).length (valsInt ((spansF x).1.map (·.2))) ∧ Below w.heap.size w w' := iLast x ao cap w h (Nat.le_trans (spansF_le x) (by omega))
theorem sTubeA (x : DFlyPath) (ao : Option Addr) (cap : Nat) (w : World) (h : PathAt w x ao cap) : Calls Try.prog 25 #[.agg #[.int .i64 x.1.1, .int .i64 x.1.2, .slice ao x.2.1.length cap, .int .i64 x.2.2.1, .int .i64 x.2.2.2]] w fun e w' => ∃ bo bc, e = .returned (.slice bo (tubeOf x (spansF x).1 (spansF x).2).length bc) ∧ w'.ownsRow w.heap.size 78 6 (.slice bo (tubeOf x (spansF x).1 (spansF x).2).length bc) (tubeOf x (spansF x).1 (spansF x).2).length (valsFlyBox (tubeOf x (spansF x).1 (spansF x).2)) ∧ Below w.heap.size w w' := sTube _ _ x ao cap w h (fun h1 => (spansF_n h1).1) (spans_range x) (fun h1 => Nat.le_trans (spansF_n h1).2 (by omega)) fun W hW => sGiv x ao cap W hW
theorem iTubeA (x : DFlyPath) (ao : Option Addr) (cap : Nat) (w : World) (h : PathAt w x ao cap) : Calls Try.prog 26 #[.agg #[.int .i64 x.1.1, .int .i64 x.1.2, .slice ao x.2.1.length cap, .int .i64 x.2.2.1, .int .i64 x.2.2.2]] w fun e w' => ∃ bo bc, e = .returned (.slice bo (tubeOf x (spansF x).1 (spansF x).2).length bc) ∧ w'.ownsRow w.heap.size 78 6 (.slice bo (tubeOf x (spansF x).1 (spansF x).2).length bc) (tubeOf x (spansF x).1 (spansF x).2).length (valsFlyBox (tubeOf x (spansF x).1 (spansF x).2)) ∧ Below w.heap.size w w' := iTube x ao cap w h

end Fly
end Go.Proofs.Ytpjacfnjjkoikaa
