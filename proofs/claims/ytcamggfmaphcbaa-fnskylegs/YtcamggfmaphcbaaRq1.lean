/- DERIVED. The drawing's reader, more: spec.l1Open. -/
import Derived.Test.YtcamggfmaphcbaaRq0
namespace Go.Proofs.Ytcamggfmaphcbaa
open Go.RowKit
set_option linter.unusedSimpArgs false
set_option linter.unusedVariables false

/-- The bytes of a code that came in. -/
def Code8 (w : World) (ao : Option Addr) (len cap : Nat) : Prop :=
  len ≤ cap ∧ cap ≤ maxLen ∧ ∀ i, i < len → ∃ b off, ∃ z : Nat, ao = some ⟨b, off, none⟩ ∧ z ≤ 255 ∧ w.cell? ⟨b, off + i, none⟩ = some (.int .u8 z)

theorem rd_new {w : World} {ao : Option Addr} {len cap m : Nat} (h : Code8 w ao len cap) (hm : m ≤ len) (h2 : m ≤ 2000) : Rd (w.alloc (.cells #[.slice ao m cap, .int .i64 0] 52)) w.heap.size ao m cap 0 := by
  refine ⟨heap_alloc_new w _, h2, fun i hi => ?_⟩
  obtain ⟨b, off, z, h3, h4, h5⟩ := h.2.2 i (by omega)
  have hlt : b < w.heap.size := World.block_lt_of_cell? w ⟨b, off + i, none⟩ h5
  exact ⟨b, off, z, h3, by omega, h4, ((Below.refl w.heap.size w).alloc (Nat.le_refl _) _).cell (p := ⟨b, off + i, none⟩) hlt |>.trans h5⟩

set_option maxHeartbeats 400000 in
theorem open_any (ao : Option Addr) (len cap : Nat) (w : World) (h : Code8 w ao len cap) :
    Calls Try.prog 15 #[.slice ao len cap] w fun e w' => e = .returned (.pointer (some ⟨w.heap.size, 0, none⟩)) ∧ Below w.heap.size w w' ∧ w'.heap.size = w.heap.size + 1 ∧ ∃ m, Rd w' w.heap.size ao m cap 0 := by
  have hc := h.1
  have hc2 : cap ≤ 9223372036854775807 := h.2.1
  by_cases hl : 2000 < len
  · obtain ⟨b, off, z, rfl, _⟩ := h.2.2 0 (by omega)
    have hR := rd_new h (m := 2000) (by omega) (Nat.le_refl _)
    clear h
    go_enter Try.func15, Try.ntmps15
    go_wp2
    go_ret
    exact ⟨rfl, (Below.refl _ _).alloc (Nat.le_refl _) _, by simp, 2000, hR⟩
  · have hR := rd_new h (m := len) (Nat.le_refl _) (by omega)
    clear h
    go_enter Try.func15, Try.ntmps15
    go_wp2
    go_ret
    exact ⟨rfl, (Below.refl _ _).alloc (Nat.le_refl _) _, by simp, len, hR⟩

end Go.Proofs.Ytcamggfmaphcbaa
