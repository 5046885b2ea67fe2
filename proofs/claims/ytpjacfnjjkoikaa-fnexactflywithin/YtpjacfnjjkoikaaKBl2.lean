/- DERIVED. What a function keeps that writes into one block of its own alone. No program is named here. -/
import Derived.Test.YtpjacfnjjkoikaaKGWa
namespace Go.Proofs.Ytpjacfnjjkoikaa
open Go.RowKit
set_option linter.unusedSimpArgs false
set_option linter.unusedVariables false

structure Bel2 (B g : Nat) (w wr : World) : Prop where
  bel : Below B w wr
  oth : ∀ b, b < w.heap.size → b ≠ g → wr.heap[b]? = w.heap[b]?
theorem Bel2.refl (B g : Nat) (w : World) : Bel2 B g w w := ⟨Below.refl _ _, fun _ _ _ => rfl⟩
theorem Bel2.size {B g : Nat} {w wr : World} (h : Bel2 B g w wr) : w.heap.size ≤ wr.heap.size := h.bel.size
theorem Bel2.setCell {B g : Nat} {w wr : World} {p : Addr} (h : Bel2 B g w wr) (hg : B ≤ p.block) (v : Value) (hp : p.block = g := by rfl) : Bel2 B g w (wr.setCell p v) :=
  ⟨h.bel.setCell hg v, fun b h1 h2 => (Below.heap_setCell wr p v b (by rw [hp]; exact h2)).trans (h.oth b h1 h2)⟩
theorem Bel2.then {B g : Nat} {w wr w1 : World} (h : Bel2 B g w wr) (hb : Below wr.heap.size wr w1) (hB : B ≤ w.heap.size) : Bel2 B g w w1 :=
  ⟨h.bel.trans (hb.mono (Nat.le_trans hB h.size)), fun b h1 h2 => (hb.block b (Nat.lt_of_lt_of_le h1 h.size)).trans (h.oth b h1 h2)⟩
/-- What a slice's own block is not lies as it lay. -/
def Others (ao : Option Addr) (w w' : World) : Prop := ∀ b, b < w.heap.size → ao ≠ some ⟨b, 0, none⟩ → w'.heap[b]? = w.heap[b]?
theorem Bel2.others {B g : Nat} {w wr : World} (h : Bel2 B g w wr) : Others (some ⟨g, 0, none⟩) w wr := fun b h1 h2 => h.oth b h1 (fun e => h2 (by rw [e]))

end Go.Proofs.Ytpjacfnjjkoikaa
