/- DERIVED. Bools of propositions, texts that are the same, boxes: plain helpers. -/
import Derived.Test.YtpjacfnjjkoikaaKGWa
namespace Go.Proofs.Ytpjacfnjjkoikaa
open Go.RowKit
set_option linter.unusedSimpArgs false
set_option linter.unusedVariables false

/-- Whether something holds, as a bool. -/
noncomputable def pb (p : Prop) : Bool := @decide p (Classical.propDecidable p)
theorem pb_iff {p : Prop} : pb p = true ↔ p := by unfold pb; simp
theorem pb_yes {p : Prop} (h : p) : pb p = true := pb_iff.2 h
theorem pb_no {p : Prop} (h : ¬ p) : pb p = false := by
  cases e : pb p
  · rfl
  · exact absurd (pb_iff.1 e) h
theorem pb_same {p q : Prop} (h : p ↔ q) : pb p = pb q := by rw [propext h]

/-- Texts are the same just if their bytes are. -/
theorem beqL {a b : ByteArray} : (a.toList == b.toList) = true ↔ a = b := by
  constructor
  · intro h
    have h1 : a.toList = b.toList := beq_iff_eq.1 h
    rw [ByteArray.toList_eq, ByteArray.toList_eq] at h1
    exact ByteArray.ext (Array.ext' h1)
  · rintro rfl
    exact beq_iff_eq.2 rfl
theorem beqL_no {a b : ByteArray} (h : ¬ a = b) : (a.toList == b.toList) = false := by
  cases e : a.toList == b.toList
  · rfl
  · exact absurd (beqL.1 e) h

/-- A box holds these values. -/
def BxC (b : Nat) (cs : Array Value) (W : World) : Prop := ∀ i, W.cell? ⟨b, i, none⟩ = cs[i]?
theorem BxC.below {b n : Nat} {cs : Array Value} {w w' : World} (h : BxC b cs w) (hb : Below n w w') (hn : b < n) : BxC b cs w' := fun i => (hb.cell (p := ⟨b, i, none⟩) hn).trans (h i)
theorem BxC.new (w : World) (cs : Array Value) (t : TypeId) : BxC w.heap.size cs (w.alloc (.cells cs t)) := fun i => by
  unfold World.cell?
  rw [show (w.alloc (.cells cs t)).heap[w.heap.size]? = some (.cells cs t (0, 0)) from heap_alloc_new w _]
  rfl

theorem box_in {w wr : World} {cs : Array Value} {t : TypeId} (h : Below (w.alloc (.cells cs t)).heap.size (w.alloc (.cells cs t)) wr) (i : Nat) : wr.cell? ⟨w.heap.size, i, none⟩ = cs[i]? := by
  rw [h.cell (p := ⟨w.heap.size, i, none⟩) (by simp)]
  have : (w.alloc (.cells cs t)).heap[w.heap.size]? = some (.cells cs t (0, 0)) := heap_alloc_new w _
  unfold World.cell?
  simp only [this]
  rfl

end Go.Proofs.Ytpjacfnjjkoikaa
