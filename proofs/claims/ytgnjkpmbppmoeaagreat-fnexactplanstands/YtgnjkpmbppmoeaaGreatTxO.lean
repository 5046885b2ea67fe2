/- DERIVED. A slice of texts, wherever it begins in its block. -/
import Derived.Test.YtgnjkpmbppmoeaaGreatTx0
namespace Go.Proofs.YtgnjkpmbppmoeaaGreat
open Go.RowKit
set_option linter.unusedSimpArgs false
set_option linter.unusedVariables false

def TxO (w : World) (ao : Option Addr) (ws : List ByteArray) : Prop :=
  ws = [] ∨ ∃ g off, ao = some ⟨g, off, none⟩ ∧ g < w.heap.size ∧ ∀ i (h : i < ws.length), w.cell? ⟨g, off + i, none⟩ = some (.string (ws[i]'h))
theorem TxO.kept {w w' : World} {ao : Option Addr} {ws : List ByteArray} (h : TxO w ao ws) (hb : ∀ g, g < w.heap.size → w'.heap[g]? = w.heap[g]?) (hs : w.heap.size ≤ w'.heap.size) : TxO w' ao ws := by
  rcases h with h0 | ⟨g, off, h1, h2, h3⟩
  · exact .inl h0
  · exact .inr ⟨g, off, h1, by omega, fun i hi => (World.cell?_of_block (a := ⟨g, off + i, none⟩) (hb g h2)).trans (h3 i hi)⟩
theorem TxO.later {w w' : World} {ao : Option Addr} {ws : List ByteArray} (h : TxO w ao ws) (hb : Below w.heap.size w w') : TxO w' ao ws := h.kept (fun g hg => hb.block g hg) hb.size
theorem TxO.of_txt {w : World} {ao : Option Addr} {ws : List ByteArray} (h : TxtAt w ao ws) : TxO w ao ws := by
  rcases h with h0 | ⟨g, h1, h2, h3⟩
  · exact .inl h0
  · exact .inr ⟨g, 0, h1, h2, fun i hi => by rw [Nat.zero_add]; exact h3 i hi⟩
theorem TxO.of_slice {w : World} {ao : Option Addr} {cap : Nat} {ws : List ByteArray} (h : SliceAt vStr (old w) w ao cap ws) : TxO w ao ws := by
  rcases h.2.2 with h0 | ⟨b, off, h1, h2, h3⟩
  · exact .inl h0
  · refine .inr ⟨b, off, h1, h2, fun i hi => ?_⟩
    obtain ⟨c, ⟨hc, _⟩, hj⟩ := h3 i hi
    have := hj 0 (by decide)
    rw [hc] at this
    have e : vStr.size = 1 := rfl
    rw [e] at this
    simpa using this
theorem TxO.at {w : World} {ao : Option Addr} {ws : List ByteArray} (h : TxO w ao ws) {i : Nat} (hi : i < ws.length) : ∃ g off, ao = some ⟨g, off, none⟩ ∧ g < w.heap.size ∧ ∀ j (hj : j < ws.length), w.cell? ⟨g, off + j, none⟩ = some (.string (ws[j]'hj)) := by
  rcases h with h | ⟨g, off, h1, h2, h3⟩
  · subst h; simp at hi
  · exact ⟨g, off, h1, h2, h3⟩

end Go.Proofs.YtgnjkpmbppmoeaaGreat
