/- DERIVED. spec.l23Low, l23High, l23Most: their walks. -/
import Derived.Test.YtpjacfnjjkoikaaKFlD
namespace Go.Proofs.Ytpjacfnjjkoikaa
namespace Fly
open Go.RowKit
set_option linter.unusedSimpArgs false
set_option linter.unusedVariables false

theorem sLow (x : DFlyPath) (ao : Option Addr) (cap : Nat) (k : Nat) (w : World) (h : PathAt w x ao cap) :
    Calls Try.prog 71 #[.agg #[.int .i64 x.1.1, .int .i64 x.1.2, .slice ao x.2.1.length cap, .int .i64 x.2.2.1, .int .i64 x.2.2.2], .int .i64 (k : Int)] w fun e w' => e = .returned (.int .i64 (lowAt x k)) ∧ Below w.heap.size w w' := by
  have hcl := h.1
  have hcm : cap ≤ 9223372036854775807 := h.2.1
  have HB : Below w.heap.size w (w.alloc (.cells #[.int .i64 x.1.1, .int .i64 x.1.2, .slice ao x.2.1.length cap, .int .i64 x.2.2.1, .int .i64 x.2.2.2] 34)) := (Below.refl _ _).alloc (Nat.le_refl _) _
  by_cases hk : k < x.2.1.length
  · have HR : Hid (lowAt x k = _) := lowAt_in hk
    obtain ⟨g, off, rfl, hok, c0, c1, c2, c3, c4, c5, c6, _⟩ := elem_FlyStep h hk
    have f0 := (HB.cell (p := ⟨g, off + k * 7 + 4, none⟩) hok).trans c4
    have hkI : (k : Int) < (x.2.1.length : Int) := by omega
    clear h c0 c1 c2 c3 c4 c5 c6
    go_enter Try.func71, Try.ntmps71
    go_wp2
    go_ret
    exact ⟨by rw [HR.out]; rfl, HB⟩
  · have HR : Hid (lowAt x k = _) := lowAt_end hk
    have hkI : ¬ (k : Int) < (x.2.1.length : Int) := by omega
    clear h
    go_enter Try.func71, Try.ntmps71
    go_wp2
    go_ret
    exact ⟨by rw [HR.out]; rfl, HB⟩

theorem sHigh (x : DFlyPath) (ao : Option Addr) (cap : Nat) (k : Nat) (w : World) (h : PathAt w x ao cap) :
    Calls Try.prog 72 #[.agg #[.int .i64 x.1.1, .int .i64 x.1.2, .slice ao x.2.1.length cap, .int .i64 x.2.2.1, .int .i64 x.2.2.2], .int .i64 (k : Int)] w fun e w' => e = .returned (.int .i64 (highAt x k)) ∧ Below w.heap.size w w' := by
  have hcl := h.1
  have hcm : cap ≤ 9223372036854775807 := h.2.1
  have HB : Below w.heap.size w (w.alloc (.cells #[.int .i64 x.1.1, .int .i64 x.1.2, .slice ao x.2.1.length cap, .int .i64 x.2.2.1, .int .i64 x.2.2.2] 34)) := (Below.refl _ _).alloc (Nat.le_refl _) _
  by_cases hk : k < x.2.1.length
  · have HR : Hid (highAt x k = _) := highAt_in hk
    obtain ⟨g, off, rfl, hok, c0, c1, c2, c3, c4, c5, c6, _⟩ := elem_FlyStep h hk
    have f0 := (HB.cell (p := ⟨g, off + k * 7 + 5, none⟩) hok).trans c5
    have hkI : (k : Int) < (x.2.1.length : Int) := by omega
    clear h c0 c1 c2 c3 c4 c5 c6
    go_enter Try.func72, Try.ntmps72
    go_wp2
    go_ret
    exact ⟨by rw [HR.out]; rfl, HB⟩
  · have HR : Hid (highAt x k = _) := highAt_end hk
    have hkI : ¬ (k : Int) < (x.2.1.length : Int) := by omega
    clear h
    go_enter Try.func72, Try.ntmps72
    go_wp2
    go_ret
    exact ⟨by rw [HR.out]; rfl, HB⟩

theorem sMost (x : DFlyPath) (ao : Option Addr) (cap : Nat) (k : Nat) (w : World) (h : PathAt w x ao cap) (hk : k < x.2.1.length) :
    Calls Try.prog 75 #[.agg #[.int .i64 x.1.1, .int .i64 x.1.2, .slice ao x.2.1.length cap, .int .i64 x.2.2.1, .int .i64 x.2.2.2], .int .i64 (k : Int)] w fun e w' => e = .returned (.int .i64 (mostAt x k)) ∧ Below w.heap.size w w' := by
  have hcl := h.1
  have hcm : cap ≤ 9223372036854775807 := h.2.1
  have HB : Below w.heap.size w (w.alloc (.cells #[.int .i64 x.1.1, .int .i64 x.1.2, .slice ao x.2.1.length cap, .int .i64 x.2.2.1, .int .i64 x.2.2.2] 34)) := (Below.refl _ _).alloc (Nat.le_refl _) _
  have HR : Hid (mostAt x k = _) := mostAt_in hk
  obtain ⟨g, off, rfl, hok, c0, c1, c2, c3, c4, c5, c6, _⟩ := elem_FlyStep h hk
  have f0 := (HB.cell (p := ⟨g, off + k * 7 + 6, none⟩) hok).trans c6
  have hkI : (k : Int) < (x.2.1.length : Int) := by omega
  clear h c0 c1 c2 c3 c4 c5 c6
  generalize (x.2.1[k]'hk).2.2.2.2.2.2 = v at *
  cases v
  · go_enter Try.func75, Try.ntmps75
    go_wp2
    go_ret
    exact ⟨by rw [HR.out]; rfl, HB⟩
  · go_enter Try.func75, Try.ntmps75
    go_wp2
    go_ret
    exact ⟨by rw [HR.out]; rfl, HB⟩

end Fly
end Go.Proofs.Ytpjacfnjjkoikaa
