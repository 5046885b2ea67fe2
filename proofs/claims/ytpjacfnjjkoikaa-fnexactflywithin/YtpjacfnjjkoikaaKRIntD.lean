/- DERIVED. Data of: A result that is a list of int: what it owns; the laws' own eqIntS, markIntS, heldIntS over it. -/
import Derived.Test.YtpjacfnjjkoikaaRows
import Derived.WalkKit
import Derived.WalkSpells
import Derived.WalkLawsBesides
import Derived.Test.YtpjacfnjjkoikaaKOr0
import Derived.Deep.QuietTactic
import Derived.BigQuiet
import Derived.Deep.RegionWith
namespace Go.Proofs.Ytpjacfnjjkoikaa
open Go.RowKit
set_option linter.unusedSimpArgs false
set_option linter.unusedVariables false

theorem Try.infoInt : (Try.prog.info? 3).map (fun i => (i.zero, i.size, i.bytes)) = some (some (.int .i64 0), 1, 8) := by kernel_rfl

def valsInt (l : List Int) : List Value := l.map (Value.int .i64)
theorem valsInt_len (l : List Int) : (valsInt l).length = l.length := by simp [valsInt]
theorem valsInt_snoc (l : List Int) (x : Int) : valsInt (l ++ [x]) = valsInt l ++ [.int .i64 x] := by simp [valsInt]
theorem valsInt_app (a b : List Int) : valsInt (a ++ b) = valsInt a ++ valsInt b := by simp [valsInt]

/-- Where a slice's elements are l, from cell 0 of its block on. -/
def AtInt (w : World) (ao : Option Addr) (l : List Int) : Prop :=
  l = [] ∨ ∃ g, ao = some ⟨g, 0, none⟩ ∧ g < w.heap.size ∧ ∀ i (h : i < l.length), w.cell? ⟨g, i, none⟩ = some (.int .i64 (l[i]'h))
theorem AtInt.kept {w w' : World} {ao : Option Addr} {l : List Int} (h : AtInt w ao l) (hb : ∀ g, ao = some ⟨g, 0, none⟩ → g < w.heap.size → w'.heap[g]? = w.heap[g]?) (hs : w.heap.size ≤ w'.heap.size) : AtInt w' ao l := by
  rcases h with h0 | ⟨g, h1, h2, h3⟩
  · exact .inl h0
  · exact .inr ⟨g, h1, by omega, fun i hi => (World.cell?_of_block (a := ⟨g, i, none⟩) (hb g h1 h2)).trans (h3 i hi)⟩
theorem AtInt.later {w w' : World} {ao : Option Addr} {l : List Int} (h : AtInt w ao l) (hb : Below w.heap.size w w') : AtInt w' ao l := h.kept (fun g _ hg => hb.block g hg) hb.size
theorem AtInt.elem {w : World} {ao : Option Addr} {l : List Int} (h : AtInt w ao l) {i : Nat} (hi : i < l.length) : ∃ g, ao = some ⟨g, 0, none⟩ ∧ g < w.heap.size ∧ w.cell? ⟨g, i, none⟩ = some (.int .i64 (l[i]'hi)) := by
  rcases h with rfl | ⟨g, h1, h2, h3⟩
  · simp at hi
  · exact ⟨g, h1, h2, h3 i hi⟩
theorem atInt_owns {w : World} {B : Nat} {ao : Option Addr} {n cap : Nat} {l : List Int} (hn : n = l.length) (h : w.ownsRow B 3 1 (.slice ao n cap) n (valsInt l)) : AtInt w ao l := by
  by_cases he : l = []
  · exact .inl he
  · right
    have hpos : 0 < n := by rw [hn]; exact List.length_pos_iff.2 he
    rcases h.2 with ⟨_, h0⟩ | ⟨g, c, cur, hv, hg, hh, hn2, hc, hsz, ht⟩
    · omega
    · cases hv
      refine ⟨g, rfl, (Array.getElem?_eq_some_iff.1 hh).1, fun i hi => ?_⟩
      have e1 : cur.toList[i]? = (valsInt l)[i]? := by
        rw [← ht, List.getElem?_take, if_pos (by omega)]
      have e2 : (valsInt l)[i]? = some (.int .i64 (l[i]'hi)) := by simp [valsInt, hi]
      rw [e2] at e1
      simp only [World.cell?, hh]
      simpa using e1

end Go.Proofs.Ytpjacfnjjkoikaa
