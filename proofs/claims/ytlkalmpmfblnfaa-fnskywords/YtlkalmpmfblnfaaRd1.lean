/- DERIVED. The drawing's reader, more: spec.l1Open, l1Rd.of. -/
import Derived.Test.YtlkalmpmfblnfaaRd0
namespace Go.Proofs.Ytlkalmpmfblnfaa
open Go.RowKit
set_option linter.unusedSimpArgs false
set_option linter.unusedVariables false

/-- The bytes of a code that came in. -/
def Code8 (w : World) (ao : Option Addr) (len cap : Nat) : Prop :=
  len ≤ cap ∧ cap ≤ maxLen ∧ ∀ i, i < len → ∃ b off, ∃ z : Nat, ao = some ⟨b, off, none⟩ ∧ z ≤ 255 ∧ w.cell? ⟨b, off + i, none⟩ = some (.int .u8 z)

theorem rd_new {w : World} {ao : Option Addr} {len cap m : Nat} (h : Code8 w ao len cap) (hm : m ≤ len) (h2 : m ≤ 2000) : Rd (w.alloc (.cells #[.slice ao m cap, .int .i64 0] 42)) w.heap.size ao m cap 0 := by
  refine ⟨heap_alloc_new w _, h2, fun i hi => ?_⟩
  obtain ⟨b, off, z, h3, h4, h5⟩ := h.2.2 i (by omega)
  have hlt : b < w.heap.size := World.block_lt_of_cell? w ⟨b, off + i, none⟩ h5
  exact ⟨b, off, z, h3, by omega, h4, ((Below.refl w.heap.size w).alloc (Nat.le_refl _) _).cell (p := ⟨b, off + i, none⟩) hlt |>.trans h5⟩

set_option maxHeartbeats 400000 in
theorem open_any (ao : Option Addr) (len cap : Nat) (w : World) (h : Code8 w ao len cap) :
    Calls Try.prog 12 #[.slice ao len cap] w fun e w' => e = .returned (.pointer (some ⟨w.heap.size, 0, none⟩)) ∧ Below w.heap.size w w' ∧ w'.heap.size = w.heap.size + 1 ∧ ∃ m, Rd w' w.heap.size ao m cap 0 := by
  have hc := h.1
  have hc2 : cap ≤ 9223372036854775807 := h.2.1
  by_cases hl : 2000 < len
  · obtain ⟨b, off, z, rfl, _⟩ := h.2.2 0 (by omega)
    have hR := rd_new h (m := 2000) (by omega) (Nat.le_refl _)
    clear h
    go_enter Try.func12, Try.ntmps12
    go_wp2
    go_ret
    exact ⟨rfl, (Below.refl _ _).alloc (Nat.le_refl _) _, by simp, 2000, hR⟩
  · have hR := rd_new h (m := len) (Nat.le_refl _) (by omega)
    clear h
    go_enter Try.func12, Try.ntmps12
    go_wp2
    go_ret
    exact ⟨rfl, (Below.refl _ _).alloc (Nat.le_refl _) _, by simp, len, hR⟩

set_option maxHeartbeats 400000 in
theorem of_any (rb cap len p g m S : Nat) (ao : Option Addr) (w : World) (h : Rd w rb ao len cap p) (hp : p ≤ 1000000) (hm : 1 ≤ m) (hm2 : m ≤ 1000) (hg : g ≠ rb)
    (hl : ∀ i, i < m → ∃ s : ByteArray, s.size ≤ S ∧ w.cell? ⟨g, i, none⟩ = some (.string s)) :
    Calls Try.prog 14 #[.pointer (some ⟨rb, 0, none⟩), .slice (some ⟨g, 0, none⟩) m m] w fun e w' => ∃ s : ByteArray, e = .returned (.string s) ∧ s.size ≤ S ∧ Rd w' rb ao len cap (p + 1) ∧ w.grownBy w' (some rb) := by
  go_enter Try.func14, Try.ntmps14
  go_wp2_with fail
  refine (pick_any rb cap len p ao m _ h hp hm (by omega)).mono ?_
  rintro e w1 ⟨q, rfl, hq, hR, hgr⟩
  obtain ⟨s, hs, hc⟩ := hl q hq
  have hc1 : w1.cell? ⟨g, q, none⟩ = some (.string s) := hgr.cell hc (by simpa using hg)
  clear hc hl h
  go_wp2
  go_ret
  exact ⟨s, rfl, hs, hR, hgr⟩

end Go.Proofs.Ytlkalmpmfblnfaa
