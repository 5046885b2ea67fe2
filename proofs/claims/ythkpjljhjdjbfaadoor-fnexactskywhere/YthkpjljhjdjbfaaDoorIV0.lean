/- DERIVED. (impl.skyChecker).sizeOk, impl.SkyValid: their walks. -/
import Derived.Test.YthkpjljhjdjbfaaDoorSkyS1
import Derived.Test.YthkpjljhjdjbfaaDoorIC1
import Derived.Test.YthkpjljhjdjbfaaDoorIP0
import Derived.Test.YthkpjljhjdjbfaaDoorIB2
import Derived.Test.YthkpjljhjdjbfaaDoorIR0
namespace Go.Proofs.YthkpjljhjdjbfaaDoor
open Go.RowKit
set_option linter.unusedSimpArgs false
set_option linter.unusedVariables false

def SizeP (W H L : Int) : Prop := InR W 1 16 ∧ InR H 1 16 ∧ InR L 1 6

set_option maxHeartbeats 1000000 in
theorem sizeOk_any (W H L : Int) (a b c d : Value) (w : World) :
    Calls Tryd.prog 41 #[.agg #[.int .i64 W, .int .i64 H, .int .i64 L, a, b, c, d]] w fun e w' => ((SizeP W H L ∧ e = .returned (.bool true)) ∨ (¬ SizeP W H L ∧ e = .returned (.bool false))) ∧ Below w.heap.size w w' := by
  by_cases h1 : InR W 1 16
  · by_cases h2 : InR H 1 16
    · by_cases h3 : InR L 1 6
      · go_enter Tryd.func41, Tryd.ntmps41
        go_wp2_with (go_at_call 65; refine (from_yes _ _ _ _ (by assumption)).mono ?_; rintro e w' ⟨rfl, rfl⟩)
        go_ret
        exact ⟨.inl ⟨⟨h1, h2, h3⟩, rfl⟩, (Below.refl _ _).alloc (Nat.le_refl _) _⟩
      · go_enter Tryd.func41, Tryd.ntmps41
        go_wp2_with (first | (go_at_call 65; refine (from_yes _ _ _ _ (by assumption)).mono ?_; rintro e w' ⟨rfl, rfl⟩) | (go_at_call 65; refine (from_no _ _ _ _ (by assumption)).mono ?_; rintro e w' ⟨rfl, rfl⟩))
        go_ret
        exact ⟨.inr ⟨fun h => h3 h.2.2, rfl⟩, (Below.refl _ _).alloc (Nat.le_refl _) _⟩
    · go_enter Tryd.func41, Tryd.ntmps41
      go_wp2_with (first | (go_at_call 65; refine (from_yes _ _ _ _ (by assumption)).mono ?_; rintro e w' ⟨rfl, rfl⟩) | (go_at_call 65; refine (from_no _ _ _ _ (by assumption)).mono ?_; rintro e w' ⟨rfl, rfl⟩))
      go_ret
      exact ⟨.inr ⟨fun h => h2 h.2.1, rfl⟩, (Below.refl _ _).alloc (Nat.le_refl _) _⟩
  · go_enter Tryd.func41, Tryd.ntmps41
    go_wp2_with (go_at_call 65; refine (from_no _ _ _ _ (by assumption)).mono ?_; rintro e w' ⟨rfl, rfl⟩)
    go_ret
    exact ⟨.inr ⟨fun h => h1 h.1, rfl⟩, (Below.refl _ _).alloc (Nat.le_refl _) _⟩

/-- The first k checks say yes. -/
def ChecksTo (W H L : Int) (ps : List DSkyPoint) (aw : List DSkyAirway) (ss : List DSkySector) (rs : List DSkyRunway) (k : Nat) : Prop :=
  (0 < k → SizeP W H L) ∧ (1 < k → PointsOk W H ps) ∧ (2 < k → AirwaysOk ps aw) ∧ (3 < k → SectorsOk W H L ss ∧ Covers W H L (allBlocks ss)) ∧ (4 < k → RunwaysOk W H rs)

set_option maxRecDepth 100000 in
set_option maxHeartbeats 4000000 in
theorem iSkyValid_any (W H L : Int) (ps : List DSkyPoint) (aw : List DSkyAirway) (ss : List DSkySector) (rs : List DSkyRunway) (ao3 : Option Addr) (cap3 : Nat) (ao4 : Option Addr) (cap4 : Nat) (ao5 : Option Addr) (cap5 : Nat) (ao6 : Option Addr) (cap6 : Nat) (w : World)
    (h3 : SliceAt vSkyPoint (old w) w ao3 cap3 ps) (h4 : SliceAt vSkyAirway (old w) w ao4 cap4 aw) (h5 : SliceAt vSkySector (old w) w ao5 cap5 ss) (h6 : SliceAt vSkyRunway (old w) w ao6 cap6 rs) (hT : TurnsLaid w) :
    Calls Tryd.prog 20 #[.agg #[.int .i64 W, .int .i64 H, .int .i64 L, .slice ao3 ps.length cap3, .slice ao4 aw.length cap4, .slice ao5 ss.length cap5, .slice ao6 rs.length cap6]] w fun e w' => ((ChecksTo W H L ps aw ss rs 5 ∧ e = .returned (.bool true)) ∨ (¬ ChecksTo W H L ps aw ss rs 5 ∧ e = .returned (.bool false))) ∧ Below w.heap.size w w' := by
  have hbw : Below w.heap.size w (((w.alloc (.cells #[.int .i64 W, .int .i64 H, .int .i64 L, .slice ao3 ps.length cap3, .slice ao4 aw.length cap4, .slice ao5 ss.length cap5, .slice ao6 rs.length cap6] 38)).alloc (.cells #[.int .i64 W, .int .i64 H, .int .i64 L, .slice ao3 ps.length cap3, .slice ao4 aw.length cap4, .slice ao5 ss.length cap5, .slice ao6 rs.length cap6] 86)).alloc (.cells #[.func (.func 41) #[.agg #[.int .i64 W, .int .i64 H, .int .i64 L, .slice ao3 ps.length cap3, .slice ao4 aw.length cap4, .slice ao5 ss.length cap5, .slice ao6 rs.length cap6]] #[], .func (.func 42) #[.agg #[.int .i64 W, .int .i64 H, .int .i64 L, .slice ao3 ps.length cap3, .slice ao4 aw.length cap4, .slice ao5 ss.length cap5, .slice ao6 rs.length cap6]] #[], .func (.func 43) #[.agg #[.int .i64 W, .int .i64 H, .int .i64 L, .slice ao3 ps.length cap3, .slice ao4 aw.length cap4, .slice ao5 ss.length cap5, .slice ao6 rs.length cap6]] #[], .func (.func 44) #[.agg #[.int .i64 W, .int .i64 H, .int .i64 L, .slice ao3 ps.length cap3, .slice ao4 aw.length cap4, .slice ao5 ss.length cap5, .slice ao6 rs.length cap6]] #[], .func (.func 45) #[.agg #[.int .i64 W, .int .i64 H, .int .i64 L, .slice ao3 ps.length cap3, .slice ao4 aw.length cap4, .slice ao5 ss.length cap5, .slice ao6 rs.length cap6]] #[]] 87)) := (((Below.refl _ _).alloc (Nat.le_refl _) _).alloc (by simp) _).alloc (by simp; omega) _
  have HBW : Hid (∀ W' : World, Below (w.heap.size + 3) (((w.alloc (.cells #[.int .i64 W, .int .i64 H, .int .i64 L, .slice ao3 ps.length cap3, .slice ao4 aw.length cap4, .slice ao5 ss.length cap5, .slice ao6 rs.length cap6] 38)).alloc (.cells #[.int .i64 W, .int .i64 H, .int .i64 L, .slice ao3 ps.length cap3, .slice ao4 aw.length cap4, .slice ao5 ss.length cap5, .slice ao6 rs.length cap6] 86)).alloc (.cells #[.func (.func 41) #[.agg #[.int .i64 W, .int .i64 H, .int .i64 L, .slice ao3 ps.length cap3, .slice ao4 aw.length cap4, .slice ao5 ss.length cap5, .slice ao6 rs.length cap6]] #[], .func (.func 42) #[.agg #[.int .i64 W, .int .i64 H, .int .i64 L, .slice ao3 ps.length cap3, .slice ao4 aw.length cap4, .slice ao5 ss.length cap5, .slice ao6 rs.length cap6]] #[], .func (.func 43) #[.agg #[.int .i64 W, .int .i64 H, .int .i64 L, .slice ao3 ps.length cap3, .slice ao4 aw.length cap4, .slice ao5 ss.length cap5, .slice ao6 rs.length cap6]] #[], .func (.func 44) #[.agg #[.int .i64 W, .int .i64 H, .int .i64 L, .slice ao3 ps.length cap3, .slice ao4 aw.length cap4, .slice ao5 ss.length cap5, .slice ao6 rs.length cap6]] #[], .func (.func 45) #[.agg #[.int .i64 W, .int .i64 H, .int .i64 L, .slice ao3 ps.length cap3, .slice ao4 aw.length cap4, .slice ao5 ss.length cap5, .slice ao6 rs.length cap6]] #[]] 87)) W' → Below w.heap.size w W') := fun W' h => hbw.trans (h.mono (by omega))
  have HF0 : Hid (∀ W' : World, Below (w.heap.size + 3) (((w.alloc (.cells #[.int .i64 W, .int .i64 H, .int .i64 L, .slice ao3 ps.length cap3, .slice ao4 aw.length cap4, .slice ao5 ss.length cap5, .slice ao6 rs.length cap6] 38)).alloc (.cells #[.int .i64 W, .int .i64 H, .int .i64 L, .slice ao3 ps.length cap3, .slice ao4 aw.length cap4, .slice ao5 ss.length cap5, .slice ao6 rs.length cap6] 86)).alloc (.cells #[.func (.func 41) #[.agg #[.int .i64 W, .int .i64 H, .int .i64 L, .slice ao3 ps.length cap3, .slice ao4 aw.length cap4, .slice ao5 ss.length cap5, .slice ao6 rs.length cap6]] #[], .func (.func 42) #[.agg #[.int .i64 W, .int .i64 H, .int .i64 L, .slice ao3 ps.length cap3, .slice ao4 aw.length cap4, .slice ao5 ss.length cap5, .slice ao6 rs.length cap6]] #[], .func (.func 43) #[.agg #[.int .i64 W, .int .i64 H, .int .i64 L, .slice ao3 ps.length cap3, .slice ao4 aw.length cap4, .slice ao5 ss.length cap5, .slice ao6 rs.length cap6]] #[], .func (.func 44) #[.agg #[.int .i64 W, .int .i64 H, .int .i64 L, .slice ao3 ps.length cap3, .slice ao4 aw.length cap4, .slice ao5 ss.length cap5, .slice ao6 rs.length cap6]] #[], .func (.func 45) #[.agg #[.int .i64 W, .int .i64 H, .int .i64 L, .slice ao3 ps.length cap3, .slice ao4 aw.length cap4, .slice ao5 ss.length cap5, .slice ao6 rs.length cap6]] #[]] 87)) W' → W'.cell? ⟨w.heap.size + 1 + 1, 0, none⟩ = some (.func (.func 41) #[.agg #[.int .i64 W, .int .i64 H, .int .i64 L, .slice ao3 ps.length cap3, .slice ao4 aw.length cap4, .slice ao5 ss.length cap5, .slice ao6 rs.length cap6]] #[])) := fun W' h => (h.cell (p := ⟨w.heap.size + 1 + 1, 0, none⟩) (show w.heap.size + 1 + 1 < w.heap.size + 3 by omega)).trans (by go_simp)
  have HF1 : Hid (∀ W' : World, Below (w.heap.size + 3) (((w.alloc (.cells #[.int .i64 W, .int .i64 H, .int .i64 L, .slice ao3 ps.length cap3, .slice ao4 aw.length cap4, .slice ao5 ss.length cap5, .slice ao6 rs.length cap6] 38)).alloc (.cells #[.int .i64 W, .int .i64 H, .int .i64 L, .slice ao3 ps.length cap3, .slice ao4 aw.length cap4, .slice ao5 ss.length cap5, .slice ao6 rs.length cap6] 86)).alloc (.cells #[.func (.func 41) #[.agg #[.int .i64 W, .int .i64 H, .int .i64 L, .slice ao3 ps.length cap3, .slice ao4 aw.length cap4, .slice ao5 ss.length cap5, .slice ao6 rs.length cap6]] #[], .func (.func 42) #[.agg #[.int .i64 W, .int .i64 H, .int .i64 L, .slice ao3 ps.length cap3, .slice ao4 aw.length cap4, .slice ao5 ss.length cap5, .slice ao6 rs.length cap6]] #[], .func (.func 43) #[.agg #[.int .i64 W, .int .i64 H, .int .i64 L, .slice ao3 ps.length cap3, .slice ao4 aw.length cap4, .slice ao5 ss.length cap5, .slice ao6 rs.length cap6]] #[], .func (.func 44) #[.agg #[.int .i64 W, .int .i64 H, .int .i64 L, .slice ao3 ps.length cap3, .slice ao4 aw.length cap4, .slice ao5 ss.length cap5, .slice ao6 rs.length cap6]] #[], .func (.func 45) #[.agg #[.int .i64 W, .int .i64 H, .int .i64 L, .slice ao3 ps.length cap3, .slice ao4 aw.length cap4, .slice ao5 ss.length cap5, .slice ao6 rs.length cap6]] #[]] 87)) W' → W'.cell? ⟨w.heap.size + 1 + 1, 1, none⟩ = some (.func (.func 42) #[.agg #[.int .i64 W, .int .i64 H, .int .i64 L, .slice ao3 ps.length cap3, .slice ao4 aw.length cap4, .slice ao5 ss.length cap5, .slice ao6 rs.length cap6]] #[])) := fun W' h => (h.cell (p := ⟨w.heap.size + 1 + 1, 1, none⟩) (show w.heap.size + 1 + 1 < w.heap.size + 3 by omega)).trans (by go_simp)
  have HF2 : Hid (∀ W' : World, Below (w.heap.size + 3) (((w.alloc (.cells #[.int .i64 W, .int .i64 H, .int .i64 L, .slice ao3 ps.length cap3, .slice ao4 aw.length cap4, .slice ao5 ss.length cap5, .slice ao6 rs.length cap6] 38)).alloc (.cells #[.int .i64 W, .int .i64 H, .int .i64 L, .slice ao3 ps.length cap3, .slice ao4 aw.length cap4, .slice ao5 ss.length cap5, .slice ao6 rs.length cap6] 86)).alloc (.cells #[.func (.func 41) #[.agg #[.int .i64 W, .int .i64 H, .int .i64 L, .slice ao3 ps.length cap3, .slice ao4 aw.length cap4, .slice ao5 ss.length cap5, .slice ao6 rs.length cap6]] #[], .func (.func 42) #[.agg #[.int .i64 W, .int .i64 H, .int .i64 L, .slice ao3 ps.length cap3, .slice ao4 aw.length cap4, .slice ao5 ss.length cap5, .slice ao6 rs.length cap6]] #[], .func (.func 43) #[.agg #[.int .i64 W, .int .i64 H, .int .i64 L, .slice ao3 ps.length cap3, .slice ao4 aw.length cap4, .slice ao5 ss.length cap5, .slice ao6 rs.length cap6]] #[], .func (.func 44) #[.agg #[.int .i64 W, .int .i64 H, .int .i64 L, .slice ao3 ps.length cap3, .slice ao4 aw.length cap4, .slice ao5 ss.length cap5, .slice ao6 rs.length cap6]] #[], .func (.func 45) #[.agg #[.int .i64 W, .int .i64 H, .int .i64 L, .slice ao3 ps.length cap3, .slice ao4 aw.length cap4, .slice ao5 ss.length cap5, .slice ao6 rs.length cap6]] #[]] 87)) W' → W'.cell? ⟨w.heap.size + 1 + 1, 2, none⟩ = some (.func (.func 43) #[.agg #[.int .i64 W, .int .i64 H, .int .i64 L, .slice ao3 ps.length cap3, .slice ao4 aw.length cap4, .slice ao5 ss.length cap5, .slice ao6 rs.length cap6]] #[])) := fun W' h => (h.cell (p := ⟨w.heap.size + 1 + 1, 2, none⟩) (show w.heap.size + 1 + 1 < w.heap.size + 3 by omega)).trans (by go_simp)
  have HF3 : Hid (∀ W' : World, Below (w.heap.size + 3) (((w.alloc (.cells #[.int .i64 W, .int .i64 H, .int .i64 L, .slice ao3 ps.length cap3, .slice ao4 aw.length cap4, .slice ao5 ss.length cap5, .slice ao6 rs.length cap6] 38)).alloc (.cells #[.int .i64 W, .int .i64 H, .int .i64 L, .slice ao3 ps.length cap3, .slice ao4 aw.length cap4, .slice ao5 ss.length cap5, .slice ao6 rs.length cap6] 86)).alloc (.cells #[.func (.func 41) #[.agg #[.int .i64 W, .int .i64 H, .int .i64 L, .slice ao3 ps.length cap3, .slice ao4 aw.length cap4, .slice ao5 ss.length cap5, .slice ao6 rs.length cap6]] #[], .func (.func 42) #[.agg #[.int .i64 W, .int .i64 H, .int .i64 L, .slice ao3 ps.length cap3, .slice ao4 aw.length cap4, .slice ao5 ss.length cap5, .slice ao6 rs.length cap6]] #[], .func (.func 43) #[.agg #[.int .i64 W, .int .i64 H, .int .i64 L, .slice ao3 ps.length cap3, .slice ao4 aw.length cap4, .slice ao5 ss.length cap5, .slice ao6 rs.length cap6]] #[], .func (.func 44) #[.agg #[.int .i64 W, .int .i64 H, .int .i64 L, .slice ao3 ps.length cap3, .slice ao4 aw.length cap4, .slice ao5 ss.length cap5, .slice ao6 rs.length cap6]] #[], .func (.func 45) #[.agg #[.int .i64 W, .int .i64 H, .int .i64 L, .slice ao3 ps.length cap3, .slice ao4 aw.length cap4, .slice ao5 ss.length cap5, .slice ao6 rs.length cap6]] #[]] 87)) W' → W'.cell? ⟨w.heap.size + 1 + 1, 3, none⟩ = some (.func (.func 44) #[.agg #[.int .i64 W, .int .i64 H, .int .i64 L, .slice ao3 ps.length cap3, .slice ao4 aw.length cap4, .slice ao5 ss.length cap5, .slice ao6 rs.length cap6]] #[])) := fun W' h => (h.cell (p := ⟨w.heap.size + 1 + 1, 3, none⟩) (show w.heap.size + 1 + 1 < w.heap.size + 3 by omega)).trans (by go_simp)
  have HF4 : Hid (∀ W' : World, Below (w.heap.size + 3) (((w.alloc (.cells #[.int .i64 W, .int .i64 H, .int .i64 L, .slice ao3 ps.length cap3, .slice ao4 aw.length cap4, .slice ao5 ss.length cap5, .slice ao6 rs.length cap6] 38)).alloc (.cells #[.int .i64 W, .int .i64 H, .int .i64 L, .slice ao3 ps.length cap3, .slice ao4 aw.length cap4, .slice ao5 ss.length cap5, .slice ao6 rs.length cap6] 86)).alloc (.cells #[.func (.func 41) #[.agg #[.int .i64 W, .int .i64 H, .int .i64 L, .slice ao3 ps.length cap3, .slice ao4 aw.length cap4, .slice ao5 ss.length cap5, .slice ao6 rs.length cap6]] #[], .func (.func 42) #[.agg #[.int .i64 W, .int .i64 H, .int .i64 L, .slice ao3 ps.length cap3, .slice ao4 aw.length cap4, .slice ao5 ss.length cap5, .slice ao6 rs.length cap6]] #[], .func (.func 43) #[.agg #[.int .i64 W, .int .i64 H, .int .i64 L, .slice ao3 ps.length cap3, .slice ao4 aw.length cap4, .slice ao5 ss.length cap5, .slice ao6 rs.length cap6]] #[], .func (.func 44) #[.agg #[.int .i64 W, .int .i64 H, .int .i64 L, .slice ao3 ps.length cap3, .slice ao4 aw.length cap4, .slice ao5 ss.length cap5, .slice ao6 rs.length cap6]] #[], .func (.func 45) #[.agg #[.int .i64 W, .int .i64 H, .int .i64 L, .slice ao3 ps.length cap3, .slice ao4 aw.length cap4, .slice ao5 ss.length cap5, .slice ao6 rs.length cap6]] #[]] 87)) W' → W'.cell? ⟨w.heap.size + 1 + 1, 4, none⟩ = some (.func (.func 45) #[.agg #[.int .i64 W, .int .i64 H, .int .i64 L, .slice ao3 ps.length cap3, .slice ao4 aw.length cap4, .slice ao5 ss.length cap5, .slice ao6 rs.length cap6]] #[])) := fun W' h => (h.cell (p := ⟨w.heap.size + 1 + 1, 4, none⟩) (show w.heap.size + 1 + 1 < w.heap.size + 3 by omega)).trans (by go_simp)
  have hrefl : Below (w.heap.size + 3) (((w.alloc (.cells #[.int .i64 W, .int .i64 H, .int .i64 L, .slice ao3 ps.length cap3, .slice ao4 aw.length cap4, .slice ao5 ss.length cap5, .slice ao6 rs.length cap6] 38)).alloc (.cells #[.int .i64 W, .int .i64 H, .int .i64 L, .slice ao3 ps.length cap3, .slice ao4 aw.length cap4, .slice ao5 ss.length cap5, .slice ao6 rs.length cap6] 86)).alloc (.cells #[.func (.func 41) #[.agg #[.int .i64 W, .int .i64 H, .int .i64 L, .slice ao3 ps.length cap3, .slice ao4 aw.length cap4, .slice ao5 ss.length cap5, .slice ao6 rs.length cap6]] #[], .func (.func 42) #[.agg #[.int .i64 W, .int .i64 H, .int .i64 L, .slice ao3 ps.length cap3, .slice ao4 aw.length cap4, .slice ao5 ss.length cap5, .slice ao6 rs.length cap6]] #[], .func (.func 43) #[.agg #[.int .i64 W, .int .i64 H, .int .i64 L, .slice ao3 ps.length cap3, .slice ao4 aw.length cap4, .slice ao5 ss.length cap5, .slice ao6 rs.length cap6]] #[], .func (.func 44) #[.agg #[.int .i64 W, .int .i64 H, .int .i64 L, .slice ao3 ps.length cap3, .slice ao4 aw.length cap4, .slice ao5 ss.length cap5, .slice ao6 rs.length cap6]] #[], .func (.func 45) #[.agg #[.int .i64 W, .int .i64 H, .int .i64 L, .slice ao3 ps.length cap3, .slice ao4 aw.length cap4, .slice ao5 ss.length cap5, .slice ao6 rs.length cap6]] #[]] 87)) (((w.alloc (.cells #[.int .i64 W, .int .i64 H, .int .i64 L, .slice ao3 ps.length cap3, .slice ao4 aw.length cap4, .slice ao5 ss.length cap5, .slice ao6 rs.length cap6] 38)).alloc (.cells #[.int .i64 W, .int .i64 H, .int .i64 L, .slice ao3 ps.length cap3, .slice ao4 aw.length cap4, .slice ao5 ss.length cap5, .slice ao6 rs.length cap6] 86)).alloc (.cells #[.func (.func 41) #[.agg #[.int .i64 W, .int .i64 H, .int .i64 L, .slice ao3 ps.length cap3, .slice ao4 aw.length cap4, .slice ao5 ss.length cap5, .slice ao6 rs.length cap6]] #[], .func (.func 42) #[.agg #[.int .i64 W, .int .i64 H, .int .i64 L, .slice ao3 ps.length cap3, .slice ao4 aw.length cap4, .slice ao5 ss.length cap5, .slice ao6 rs.length cap6]] #[], .func (.func 43) #[.agg #[.int .i64 W, .int .i64 H, .int .i64 L, .slice ao3 ps.length cap3, .slice ao4 aw.length cap4, .slice ao5 ss.length cap5, .slice ao6 rs.length cap6]] #[], .func (.func 44) #[.agg #[.int .i64 W, .int .i64 H, .int .i64 L, .slice ao3 ps.length cap3, .slice ao4 aw.length cap4, .slice ao5 ss.length cap5, .slice ao6 rs.length cap6]] #[], .func (.func 45) #[.agg #[.int .i64 W, .int .i64 H, .int .i64 L, .slice ao3 ps.length cap3, .slice ao4 aw.length cap4, .slice ao5 ss.length cap5, .slice ao6 rs.length cap6]] #[]] 87)) := Below.refl _ _
  go_enter Tryd.func20, Tryd.ntmps20
  go_wp2
  go_loopw [22] (fun i wr => ∃ k : Nat, k ≤ 5 ∧ i = .int .i64 k ∧ Hid (ChecksTo W H L ps aw ss rs k) ∧ Below (w.heap.size + 3) (((w.alloc (.cells #[.int .i64 W, .int .i64 H, .int .i64 L, .slice ao3 ps.length cap3, .slice ao4 aw.length cap4, .slice ao5 ss.length cap5, .slice ao6 rs.length cap6] 38)).alloc (.cells #[.int .i64 W, .int .i64 H, .int .i64 L, .slice ao3 ps.length cap3, .slice ao4 aw.length cap4, .slice ao5 ss.length cap5, .slice ao6 rs.length cap6] 86)).alloc (.cells #[.func (.func 41) #[.agg #[.int .i64 W, .int .i64 H, .int .i64 L, .slice ao3 ps.length cap3, .slice ao4 aw.length cap4, .slice ao5 ss.length cap5, .slice ao6 rs.length cap6]] #[], .func (.func 42) #[.agg #[.int .i64 W, .int .i64 H, .int .i64 L, .slice ao3 ps.length cap3, .slice ao4 aw.length cap4, .slice ao5 ss.length cap5, .slice ao6 rs.length cap6]] #[], .func (.func 43) #[.agg #[.int .i64 W, .int .i64 H, .int .i64 L, .slice ao3 ps.length cap3, .slice ao4 aw.length cap4, .slice ao5 ss.length cap5, .slice ao6 rs.length cap6]] #[], .func (.func 44) #[.agg #[.int .i64 W, .int .i64 H, .int .i64 L, .slice ao3 ps.length cap3, .slice ao4 aw.length cap4, .slice ao5 ss.length cap5, .slice ao6 rs.length cap6]] #[], .func (.func 45) #[.agg #[.int .i64 W, .int .i64 H, .int .i64 L, .slice ao3 ps.length cap3, .slice ao4 aw.length cap4, .slice ao5 ss.length cap5, .slice ao6 rs.length cap6]] #[]] 87)) wr) (fun i _ => 5 - (intOf i).toNat)
  case atStart => exact ⟨0, by omega, rfl, ⟨by omega, by omega, by omega, by omega, by omega⟩, hrefl⟩
  case round =>
    clear hrefl hbw
    obtain ⟨k, hk, rfl, hpre, hb⟩ := hrel
    have hB := HBW.out wr hb
    have hsz : w.heap.size + 3 ≤ wr.heap.size := by have := hb.size; simp at this; omega
    have hk' : k = 0 ∨ k = 1 ∨ k = 2 ∨ k = 3 ∨ k = 4 ∨ k = 5 := by omega
    rcases hk' with rfl | rfl | rfl | rfl | rfl | rfl
    · have f0 := HF0.out wr hb
      have HPRE : Hid (ChecksTo W H L ps aw ss rs 0) := hpre
      clear hpre
      go_wp2_with fail
      refine (sizeOk_any W H L _ _ _ _ _).mono ?_
      rintro e w2 ⟨⟨hc, rfl⟩ | ⟨hc, rfl⟩, hb2⟩
      · have HN : Hid (ChecksTo W H L ps aw ss rs (0 + 1)) := ⟨fun _ => hc, by omega, by omega, by omega, by omega⟩
        have hb3 : Below (w.heap.size + 3) (((w.alloc (.cells #[.int .i64 W, .int .i64 H, .int .i64 L, .slice ao3 ps.length cap3, .slice ao4 aw.length cap4, .slice ao5 ss.length cap5, .slice ao6 rs.length cap6] 38)).alloc (.cells #[.int .i64 W, .int .i64 H, .int .i64 L, .slice ao3 ps.length cap3, .slice ao4 aw.length cap4, .slice ao5 ss.length cap5, .slice ao6 rs.length cap6] 86)).alloc (.cells #[.func (.func 41) #[.agg #[.int .i64 W, .int .i64 H, .int .i64 L, .slice ao3 ps.length cap3, .slice ao4 aw.length cap4, .slice ao5 ss.length cap5, .slice ao6 rs.length cap6]] #[], .func (.func 42) #[.agg #[.int .i64 W, .int .i64 H, .int .i64 L, .slice ao3 ps.length cap3, .slice ao4 aw.length cap4, .slice ao5 ss.length cap5, .slice ao6 rs.length cap6]] #[], .func (.func 43) #[.agg #[.int .i64 W, .int .i64 H, .int .i64 L, .slice ao3 ps.length cap3, .slice ao4 aw.length cap4, .slice ao5 ss.length cap5, .slice ao6 rs.length cap6]] #[], .func (.func 44) #[.agg #[.int .i64 W, .int .i64 H, .int .i64 L, .slice ao3 ps.length cap3, .slice ao4 aw.length cap4, .slice ao5 ss.length cap5, .slice ao6 rs.length cap6]] #[], .func (.func 45) #[.agg #[.int .i64 W, .int .i64 H, .int .i64 L, .slice ao3 ps.length cap3, .slice ao4 aw.length cap4, .slice ao5 ss.length cap5, .slice ao6 rs.length cap6]] #[]] 87)) w2 := hb.trans (hb2.mono hsz)
        clear hc hb2
        go_wp2
        go_roundw
        case rel => exact ⟨0 + 1, by omega, by go_num, HN, hb3⟩
        case measure => simp [intOf]
      · have HN : Hid (¬ ChecksTo W H L ps aw ss rs 5) := fun h => hc (h.1 (by omega))
        have hb3 := hB.trans (hb2.mono hB.size)
        clear hc hb2
        go_wp2
        go_ret
        exact ⟨.inr ⟨HN.out, rfl⟩, hb3⟩
    · have f0 := HF1.out wr hb
      have HPRE : Hid (ChecksTo W H L ps aw ss rs 1) := hpre
      clear hpre
      have hsz1 : SizeP W H L := HPRE.out.1 (by omega)
      have hsW : 1 ≤ W ∧ W ≤ 16 := hsz1.1
      have hsH : 1 ≤ H ∧ H ≤ 16 := hsz1.2.1
      have hsL : 1 ≤ L ∧ L ≤ 6 := hsz1.2.2
      go_wp2_with fail
      refine (pointsOk_any W H L ao3 cap3 ps _ _ _ _ hsW hsH (h3.later hB)).mono ?_
      rintro e w2 ⟨⟨hc, rfl⟩ | ⟨hc, rfl⟩, hb2⟩
      · have HN : Hid (ChecksTo W H L ps aw ss rs (1 + 1)) := ⟨fun _ => HPRE.out.1 (by omega), fun _ => hc, by omega, by omega, by omega⟩
        have hb3 : Below (w.heap.size + 3) (((w.alloc (.cells #[.int .i64 W, .int .i64 H, .int .i64 L, .slice ao3 ps.length cap3, .slice ao4 aw.length cap4, .slice ao5 ss.length cap5, .slice ao6 rs.length cap6] 38)).alloc (.cells #[.int .i64 W, .int .i64 H, .int .i64 L, .slice ao3 ps.length cap3, .slice ao4 aw.length cap4, .slice ao5 ss.length cap5, .slice ao6 rs.length cap6] 86)).alloc (.cells #[.func (.func 41) #[.agg #[.int .i64 W, .int .i64 H, .int .i64 L, .slice ao3 ps.length cap3, .slice ao4 aw.length cap4, .slice ao5 ss.length cap5, .slice ao6 rs.length cap6]] #[], .func (.func 42) #[.agg #[.int .i64 W, .int .i64 H, .int .i64 L, .slice ao3 ps.length cap3, .slice ao4 aw.length cap4, .slice ao5 ss.length cap5, .slice ao6 rs.length cap6]] #[], .func (.func 43) #[.agg #[.int .i64 W, .int .i64 H, .int .i64 L, .slice ao3 ps.length cap3, .slice ao4 aw.length cap4, .slice ao5 ss.length cap5, .slice ao6 rs.length cap6]] #[], .func (.func 44) #[.agg #[.int .i64 W, .int .i64 H, .int .i64 L, .slice ao3 ps.length cap3, .slice ao4 aw.length cap4, .slice ao5 ss.length cap5, .slice ao6 rs.length cap6]] #[], .func (.func 45) #[.agg #[.int .i64 W, .int .i64 H, .int .i64 L, .slice ao3 ps.length cap3, .slice ao4 aw.length cap4, .slice ao5 ss.length cap5, .slice ao6 rs.length cap6]] #[]] 87)) w2 := hb.trans (hb2.mono hsz)
        clear hc hb2
        go_wp2
        go_roundw
        case rel => exact ⟨1 + 1, by omega, by go_num, HN, hb3⟩
        case measure => simp [intOf]
      · have HN : Hid (¬ ChecksTo W H L ps aw ss rs 5) := fun h => hc (h.2.1 (by omega))
        have hb3 := hB.trans (hb2.mono hB.size)
        clear hc hb2
        go_wp2
        go_ret
        exact ⟨.inr ⟨HN.out, rfl⟩, hb3⟩
    · have f0 := HF2.out wr hb
      have HPRE : Hid (ChecksTo W H L ps aw ss rs 2) := hpre
      clear hpre
      have hsz1 : SizeP W H L := HPRE.out.1 (by omega)
      have hsW : 1 ≤ W ∧ W ≤ 16 := hsz1.1
      have hsH : 1 ≤ H ∧ H ≤ 16 := hsz1.2.1
      have hsL : 1 ≤ L ∧ L ≤ 6 := hsz1.2.2
      have hps : ps.length ≤ 1000 := by have := (HPRE.out.2.1 (by omega)).1; omega
      go_wp2_with fail
      refine (airwaysOk_any W H L ao3 cap3 ps ao4 cap4 aw _ _ _ hps (h3.later hB) (h4.later hB)).mono ?_
      rintro e w2 ⟨⟨hc, rfl⟩ | ⟨hc, rfl⟩, hb2⟩
      · have HN : Hid (ChecksTo W H L ps aw ss rs (2 + 1)) := ⟨fun _ => HPRE.out.1 (by omega), fun _ => HPRE.out.2.1 (by omega), fun _ => hc, by omega, by omega⟩
        have hb3 : Below (w.heap.size + 3) (((w.alloc (.cells #[.int .i64 W, .int .i64 H, .int .i64 L, .slice ao3 ps.length cap3, .slice ao4 aw.length cap4, .slice ao5 ss.length cap5, .slice ao6 rs.length cap6] 38)).alloc (.cells #[.int .i64 W, .int .i64 H, .int .i64 L, .slice ao3 ps.length cap3, .slice ao4 aw.length cap4, .slice ao5 ss.length cap5, .slice ao6 rs.length cap6] 86)).alloc (.cells #[.func (.func 41) #[.agg #[.int .i64 W, .int .i64 H, .int .i64 L, .slice ao3 ps.length cap3, .slice ao4 aw.length cap4, .slice ao5 ss.length cap5, .slice ao6 rs.length cap6]] #[], .func (.func 42) #[.agg #[.int .i64 W, .int .i64 H, .int .i64 L, .slice ao3 ps.length cap3, .slice ao4 aw.length cap4, .slice ao5 ss.length cap5, .slice ao6 rs.length cap6]] #[], .func (.func 43) #[.agg #[.int .i64 W, .int .i64 H, .int .i64 L, .slice ao3 ps.length cap3, .slice ao4 aw.length cap4, .slice ao5 ss.length cap5, .slice ao6 rs.length cap6]] #[], .func (.func 44) #[.agg #[.int .i64 W, .int .i64 H, .int .i64 L, .slice ao3 ps.length cap3, .slice ao4 aw.length cap4, .slice ao5 ss.length cap5, .slice ao6 rs.length cap6]] #[], .func (.func 45) #[.agg #[.int .i64 W, .int .i64 H, .int .i64 L, .slice ao3 ps.length cap3, .slice ao4 aw.length cap4, .slice ao5 ss.length cap5, .slice ao6 rs.length cap6]] #[]] 87)) w2 := hb.trans (hb2.mono hsz)
        clear hc hb2
        go_wp2
        go_roundw
        case rel => exact ⟨2 + 1, by omega, by go_num, HN, hb3⟩
        case measure => simp [intOf]
      · have HN : Hid (¬ ChecksTo W H L ps aw ss rs 5) := fun h => hc (h.2.2.1 (by omega))
        have hb3 := hB.trans (hb2.mono hB.size)
        clear hc hb2
        go_wp2
        go_ret
        exact ⟨.inr ⟨HN.out, rfl⟩, hb3⟩
    · have f0 := HF3.out wr hb
      have HPRE : Hid (ChecksTo W H L ps aw ss rs 3) := hpre
      clear hpre
      have hsz1 : SizeP W H L := HPRE.out.1 (by omega)
      have hsW : 1 ≤ W ∧ W ≤ 16 := hsz1.1
      have hsH : 1 ≤ H ∧ H ≤ 16 := hsz1.2.1
      have hsL : 1 ≤ L ∧ L ≤ 6 := hsz1.2.2
      go_wp2_with fail
      refine (sectorsOk_any W H L _ _ ao5 cap5 ss _ _ hsW hsH hsL (h5.later hB)).mono ?_
      rintro e w2 ⟨⟨hc, rfl⟩ | ⟨hc, rfl⟩, hb2⟩
      · have HN : Hid (ChecksTo W H L ps aw ss rs (3 + 1)) := ⟨fun _ => HPRE.out.1 (by omega), fun _ => HPRE.out.2.1 (by omega), fun _ => HPRE.out.2.2.1 (by omega), fun _ => hc, by omega⟩
        have hb3 : Below (w.heap.size + 3) (((w.alloc (.cells #[.int .i64 W, .int .i64 H, .int .i64 L, .slice ao3 ps.length cap3, .slice ao4 aw.length cap4, .slice ao5 ss.length cap5, .slice ao6 rs.length cap6] 38)).alloc (.cells #[.int .i64 W, .int .i64 H, .int .i64 L, .slice ao3 ps.length cap3, .slice ao4 aw.length cap4, .slice ao5 ss.length cap5, .slice ao6 rs.length cap6] 86)).alloc (.cells #[.func (.func 41) #[.agg #[.int .i64 W, .int .i64 H, .int .i64 L, .slice ao3 ps.length cap3, .slice ao4 aw.length cap4, .slice ao5 ss.length cap5, .slice ao6 rs.length cap6]] #[], .func (.func 42) #[.agg #[.int .i64 W, .int .i64 H, .int .i64 L, .slice ao3 ps.length cap3, .slice ao4 aw.length cap4, .slice ao5 ss.length cap5, .slice ao6 rs.length cap6]] #[], .func (.func 43) #[.agg #[.int .i64 W, .int .i64 H, .int .i64 L, .slice ao3 ps.length cap3, .slice ao4 aw.length cap4, .slice ao5 ss.length cap5, .slice ao6 rs.length cap6]] #[], .func (.func 44) #[.agg #[.int .i64 W, .int .i64 H, .int .i64 L, .slice ao3 ps.length cap3, .slice ao4 aw.length cap4, .slice ao5 ss.length cap5, .slice ao6 rs.length cap6]] #[], .func (.func 45) #[.agg #[.int .i64 W, .int .i64 H, .int .i64 L, .slice ao3 ps.length cap3, .slice ao4 aw.length cap4, .slice ao5 ss.length cap5, .slice ao6 rs.length cap6]] #[]] 87)) w2 := hb.trans (hb2.mono hsz)
        clear hc hb2
        go_wp2
        go_roundw
        case rel => exact ⟨3 + 1, by omega, by go_num, HN, hb3⟩
        case measure => simp [intOf]
      · have HN : Hid (¬ ChecksTo W H L ps aw ss rs 5) := fun h => hc (h.2.2.2.1 (by omega))
        have hb3 := hB.trans (hb2.mono hB.size)
        clear hc hb2
        go_wp2
        go_ret
        exact ⟨.inr ⟨HN.out, rfl⟩, hb3⟩
    · have f0 := HF4.out wr hb
      have HPRE : Hid (ChecksTo W H L ps aw ss rs 4) := hpre
      clear hpre
      have hsz1 : SizeP W H L := HPRE.out.1 (by omega)
      have hsW : 1 ≤ W ∧ W ≤ 16 := hsz1.1
      have hsH : 1 ≤ H ∧ H ≤ 16 := hsz1.2.1
      have hsL : 1 ≤ L ∧ L ≤ 6 := hsz1.2.2
      go_wp2_with fail
      refine (runwaysOk_any W H L _ _ _ ao6 cap6 rs _ hsW hsH (h6.later hB) (hT.later hB)).mono ?_
      rintro e w2 ⟨⟨hc, rfl⟩ | ⟨hc, rfl⟩, hb2⟩
      · have HN : Hid (ChecksTo W H L ps aw ss rs (4 + 1)) := ⟨fun _ => HPRE.out.1 (by omega), fun _ => HPRE.out.2.1 (by omega), fun _ => HPRE.out.2.2.1 (by omega), fun _ => HPRE.out.2.2.2.1 (by omega), fun _ => hc⟩
        have hb3 : Below (w.heap.size + 3) (((w.alloc (.cells #[.int .i64 W, .int .i64 H, .int .i64 L, .slice ao3 ps.length cap3, .slice ao4 aw.length cap4, .slice ao5 ss.length cap5, .slice ao6 rs.length cap6] 38)).alloc (.cells #[.int .i64 W, .int .i64 H, .int .i64 L, .slice ao3 ps.length cap3, .slice ao4 aw.length cap4, .slice ao5 ss.length cap5, .slice ao6 rs.length cap6] 86)).alloc (.cells #[.func (.func 41) #[.agg #[.int .i64 W, .int .i64 H, .int .i64 L, .slice ao3 ps.length cap3, .slice ao4 aw.length cap4, .slice ao5 ss.length cap5, .slice ao6 rs.length cap6]] #[], .func (.func 42) #[.agg #[.int .i64 W, .int .i64 H, .int .i64 L, .slice ao3 ps.length cap3, .slice ao4 aw.length cap4, .slice ao5 ss.length cap5, .slice ao6 rs.length cap6]] #[], .func (.func 43) #[.agg #[.int .i64 W, .int .i64 H, .int .i64 L, .slice ao3 ps.length cap3, .slice ao4 aw.length cap4, .slice ao5 ss.length cap5, .slice ao6 rs.length cap6]] #[], .func (.func 44) #[.agg #[.int .i64 W, .int .i64 H, .int .i64 L, .slice ao3 ps.length cap3, .slice ao4 aw.length cap4, .slice ao5 ss.length cap5, .slice ao6 rs.length cap6]] #[], .func (.func 45) #[.agg #[.int .i64 W, .int .i64 H, .int .i64 L, .slice ao3 ps.length cap3, .slice ao4 aw.length cap4, .slice ao5 ss.length cap5, .slice ao6 rs.length cap6]] #[]] 87)) w2 := hb.trans (hb2.mono hsz)
        clear hc hb2
        go_wp2
        go_roundw
        case rel => exact ⟨4 + 1, by omega, by go_num, HN, hb3⟩
        case measure => simp [intOf]
      · have HN : Hid (¬ ChecksTo W H L ps aw ss rs 5) := fun h => hc (h.2.2.2.2 (by omega))
        have hb3 := hB.trans (hb2.mono hB.size)
        clear hc hb2
        go_wp2
        go_ret
        exact ⟨.inr ⟨HN.out, rfl⟩, hb3⟩
    · have HN : Hid (ChecksTo W H L ps aw ss rs 5) := hpre
      clear hpre
      go_wp2
      go_ret
      exact ⟨.inl ⟨HN.out, rfl⟩, hB⟩

theorem checks_valid {x : DSky} : ChecksTo x.1 x.2.1 x.2.2.1 x.2.2.2.1 x.2.2.2.2.1 x.2.2.2.2.2.1 x.2.2.2.2.2.2 5 ↔ ValidSky x := by
  constructor
  · rintro ⟨h1, h2, h3, h4, h5⟩
    exact ⟨h1 (by omega), h2 (by omega), h3 (by omega), (h4 (by omega)).1, (h4 (by omega)).2, h5 (by omega)⟩
  · rintro ⟨h1, h2, h3, h4, h5, h6⟩
    exact ⟨fun _ => h1, fun _ => h2, fun _ => h3, fun _ => ⟨h4, h5⟩, fun _ => h6⟩

theorem iSkyValid (x : DSky) (ao3 : Option Addr) (cap3 : Nat) (ao4 : Option Addr) (cap4 : Nat) (ao5 : Option Addr) (cap5 : Nat) (ao6 : Option Addr) (cap6 : Nat) (w : World) (h : SkyAt w x ao3 cap3 ao4 cap4 ao5 cap5 ao6 cap6) (hT : TurnsLaid w) :
    Calls Tryd.prog 20 #[.agg (skyCells x ao3 cap3 ao4 cap4 ao5 cap5 ao6 cap6)] w fun e w' => ((ValidSky x ∧ e = .returned (.bool true)) ∨ (¬ ValidSky x ∧ e = .returned (.bool false))) ∧ Below w.heap.size w w' :=
  (iSkyValid_any x.1 x.2.1 x.2.2.1 x.2.2.2.1 x.2.2.2.2.1 x.2.2.2.2.2.1 x.2.2.2.2.2.2 ao3 cap3 ao4 cap4 ao5 cap5 ao6 cap6 w h.p3 h.p4 h.p5 h.p6 hT).mono fun e w' h1 => ⟨h1.1.imp (fun h2 => ⟨checks_valid.1 h2.1, h2.2⟩) (fun h2 => ⟨fun h3 => h2.1 (checks_valid.2 h3), h2.2⟩), h1.2⟩

end Go.Proofs.YthkpjljhjdjbfaaDoor
