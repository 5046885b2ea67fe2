/- DERIVED. A slice of texts that a call made. -/
import Derived.Test.YtgnjkpmbppmoeaaGreatRows
import Derived.Test.YtgnjkpmbppmoeaaGreatOr0
namespace Go.Proofs.YtgnjkpmbppmoeaaGreat
open Go.RowKit
set_option linter.unusedSimpArgs false
set_option linter.unusedVariables false

theorem Tryz.infoStr : (Tryz.prog.info? 9).map (fun i => (i.zero, i.size, i.bytes)) = some (some (.string ByteArray.empty), 1, 16) := by kernel_rfl

def strB (ws : List ByteArray) : List Value := ws.map Value.string
theorem strB_len (ws : List ByteArray) : (strB ws).length = ws.length := by simp [strB]
theorem strB_snoc (ws : List ByteArray) (l : ByteArray) : strB (ws ++ [l]) = strB ws ++ [.string l] := by simp [strB]
theorem strB_app (a b : List ByteArray) : strB (a ++ b) = strB a ++ strB b := by simp [strB]

/-- Where a slice's elements are the texts ws, from cell 0 of its block on. -/
def TxtAt (w : World) (ao : Option Addr) (ws : List ByteArray) : Prop :=
  ws = [] ∨ ∃ g, ao = some ⟨g, 0, none⟩ ∧ g < w.heap.size ∧ ∀ i (h : i < ws.length), w.cell? ⟨g, i, none⟩ = some (.string (ws[i]'h))
theorem TxtAt.kept {w w' : World} {ao : Option Addr} {ws : List ByteArray} (h : TxtAt w ao ws) (hb : ∀ g, ao = some ⟨g, 0, none⟩ → g < w.heap.size → w'.heap[g]? = w.heap[g]?) (hs : w.heap.size ≤ w'.heap.size) : TxtAt w' ao ws := by
  rcases h with h0 | ⟨g, h1, h2, h3⟩
  · exact .inl h0
  · exact .inr ⟨g, h1, by omega, fun i hi => (World.cell?_of_block (a := ⟨g, i, none⟩) (hb g h1 h2)).trans (h3 i hi)⟩
theorem TxtAt.later {w w' : World} {ao : Option Addr} {ws : List ByteArray} (h : TxtAt w ao ws) (hb : Below w.heap.size w w') : TxtAt w' ao ws := h.kept (fun g _ hg => hb.block g hg) hb.size
theorem txt_of_owns {w : World} {B : Nat} {ao : Option Addr} {n cap : Nat} {ws : List ByteArray} (hn : n = ws.length) (h : w.ownsRow B 9 1 (.slice ao n cap) n (strB ws)) : TxtAt w ao ws := by
  by_cases he : ws = []
  · exact .inl he
  · right
    have hpos : 0 < n := by rw [hn]; exact List.length_pos_iff.2 he
    rcases h.2 with ⟨_, h0⟩ | ⟨g, c, cur, hv, hg, hh, hn2, hc, hsz, ht⟩
    · omega
    · cases hv
      refine ⟨g, rfl, (Array.getElem?_eq_some_iff.1 hh).1, fun i hi => ?_⟩
      have e1 : cur.toList[i]? = (strB ws)[i]? := by
        rw [← ht, List.getElem?_take, if_pos (by omega)]
      have e2 : (strB ws)[i]? = some (.string (ws[i]'hi)) := by simp [strB, hi]
      rw [e2] at e1
      simp only [World.cell?, hh]
      simpa using e1

end Go.Proofs.YtgnjkpmbppmoeaaGreat
