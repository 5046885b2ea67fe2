/- DERIVED. Too many points, airways, sectors, runways: false at once. -/
import Derived.Test.YthkpjljhjdjbfaaDoorSkyS6
namespace Go.Proofs.YthkpjljhjdjbfaaDoor
open Go.RowKit
set_option linter.unusedSimpArgs false
set_option linter.unusedVariables false

set_option maxRecDepth 100000 in
set_option maxHeartbeats 1000000 in
theorem specPoints_many (x : DSky) (ao3 : Option Addr) (cap3 : Nat) (ao4 : Option Addr) (cap4 : Nat) (ao5 : Option Addr) (cap5 : Nat) (ao6 : Option Addr) (cap6 : Nat) (w : World) (hn : 16 < x.2.2.2.1.length) :
    Calls Tryd.prog 31 #[.agg (skyCells x ao3 cap3 ao4 cap4 ao5 cap5 ao6 cap6)] w fun e w' => e = .returned (.bool false) ∧ Below w.heap.size w w' := by
  obtain ⟨W, H, L, ps, aw, ss, rs⟩ := x
  simp only [skyCells] at *
  have h1 : (16 : Int) < (ps.length : Int) := by omega
  have h2 : ¬ (ps.length : Int) ≤ 16 := by omega
  go_enter Tryd.func31, Tryd.ntmps31
  go_wp2
  go_ret
  exact ⟨rfl, (Below.refl _ _).alloc (Nat.le_refl _) _⟩

set_option maxRecDepth 100000 in
set_option maxHeartbeats 1000000 in
theorem specAirways_many (x : DSky) (ao3 : Option Addr) (cap3 : Nat) (ao4 : Option Addr) (cap4 : Nat) (ao5 : Option Addr) (cap5 : Nat) (ao6 : Option Addr) (cap6 : Nat) (w : World) (hn : 8 < x.2.2.2.2.1.length) :
    Calls Tryd.prog 32 #[.agg (skyCells x ao3 cap3 ao4 cap4 ao5 cap5 ao6 cap6)] w fun e w' => e = .returned (.bool false) ∧ Below w.heap.size w w' := by
  obtain ⟨W, H, L, ps, aw, ss, rs⟩ := x
  simp only [skyCells] at *
  have h1 : (8 : Int) < (aw.length : Int) := by omega
  have h2 : ¬ (aw.length : Int) ≤ 8 := by omega
  go_enter Tryd.func32, Tryd.ntmps32
  go_wp2
  go_ret
  exact ⟨rfl, (Below.refl _ _).alloc (Nat.le_refl _) _⟩

set_option maxRecDepth 100000 in
set_option maxHeartbeats 1000000 in
theorem specSectors_many (x : DSky) (ao3 : Option Addr) (cap3 : Nat) (ao4 : Option Addr) (cap4 : Nat) (ao5 : Option Addr) (cap5 : Nat) (ao6 : Option Addr) (cap6 : Nat) (w : World) (hn : 6 < x.2.2.2.2.2.1.length) :
    Calls Tryd.prog 33 #[.agg (skyCells x ao3 cap3 ao4 cap4 ao5 cap5 ao6 cap6)] w fun e w' => e = .returned (.bool false) ∧ Below w.heap.size w w' := by
  obtain ⟨W, H, L, ps, aw, ss, rs⟩ := x
  simp only [skyCells] at *
  have h1 : (6 : Int) < (ss.length : Int) := by omega
  have h2 : ¬ (ss.length : Int) ≤ 6 := by omega
  go_enter Tryd.func33, Tryd.ntmps33
  go_wp2
  go_ret
  exact ⟨rfl, (Below.refl _ _).alloc (Nat.le_refl _) _⟩

set_option maxRecDepth 100000 in
set_option maxHeartbeats 1000000 in
theorem specRunways_many (x : DSky) (ao3 : Option Addr) (cap3 : Nat) (ao4 : Option Addr) (cap4 : Nat) (ao5 : Option Addr) (cap5 : Nat) (ao6 : Option Addr) (cap6 : Nat) (w : World) (hn : 4 < x.2.2.2.2.2.2.length) :
    Calls Tryd.prog 35 #[.agg (skyCells x ao3 cap3 ao4 cap4 ao5 cap5 ao6 cap6)] w fun e w' => e = .returned (.bool false) ∧ Below w.heap.size w w' := by
  obtain ⟨W, H, L, ps, aw, ss, rs⟩ := x
  simp only [skyCells] at *
  have h1 : (4 : Int) < (rs.length : Int) := by omega
  have h2 : ¬ (rs.length : Int) ≤ 4 := by omega
  go_enter Tryd.func35, Tryd.ntmps35
  go_wp2
  go_ret
  exact ⟨rfl, (Below.refl _ _).alloc (Nat.le_refl _) _⟩

theorem specPoints_any (x : DSky) (ao3 : Option Addr) (cap3 : Nat) (ao4 : Option Addr) (cap4 : Nat) (ao5 : Option Addr) (cap5 : Nat) (ao6 : Option Addr) (cap6 : Nat) (w : World)
    (h : SkyAt w x ao3 cap3 ao4 cap4 ao5 cap5 ao6 cap6) (hs : SizeOk x) :
    Calls Tryd.prog 31 #[.agg (skyCells x ao3 cap3 ao4 cap4 ao5 cap5 ao6 cap6)] w fun e w' => ∃ b : Bool, e = .returned (.bool b) ∧ (b = true ↔ PointsOk x.1 x.2.1 x.2.2.2.1) ∧ Below w.heap.size w w' := by
  by_cases hn : x.2.2.2.1.length ≤ 16
  · exact specPoints_t x ao3 cap3 ao4 cap4 ao5 cap5 ao6 cap6 w h hs hn
  · exact (specPoints_many x ao3 cap3 ao4 cap4 ao5 cap5 ao6 cap6 w (by omega)).mono fun e w' h1 => ⟨false, h1.1, ⟨fun h2 => by simp at h2, fun h2 => absurd h2.1 hn⟩, h1.2⟩

theorem specAirways_any (x : DSky) (ao3 : Option Addr) (cap3 : Nat) (ao4 : Option Addr) (cap4 : Nat) (ao5 : Option Addr) (cap5 : Nat) (ao6 : Option Addr) (cap6 : Nat) (w : World)
    (h : SkyAt w x ao3 cap3 ao4 cap4 ao5 cap5 ao6 cap6) (hps : x.2.2.2.1.length ≤ 1000) :
    Calls Tryd.prog 32 #[.agg (skyCells x ao3 cap3 ao4 cap4 ao5 cap5 ao6 cap6)] w fun e w' => ∃ b : Bool, e = .returned (.bool b) ∧ (b = true ↔ AirwaysOk x.2.2.2.1 x.2.2.2.2.1) ∧ Below w.heap.size w w' := by
  by_cases hn : x.2.2.2.2.1.length ≤ 8
  · exact specAirways_t x ao3 cap3 ao4 cap4 ao5 cap5 ao6 cap6 w h hps hn
  · exact (specAirways_many x ao3 cap3 ao4 cap4 ao5 cap5 ao6 cap6 w (by omega)).mono fun e w' h1 => ⟨false, h1.1, ⟨fun h2 => by simp at h2, fun h2 => absurd h2.1 hn⟩, h1.2⟩

theorem specSectors_any (x : DSky) (ao3 : Option Addr) (cap3 : Nat) (ao4 : Option Addr) (cap4 : Nat) (ao5 : Option Addr) (cap5 : Nat) (ao6 : Option Addr) (cap6 : Nat) (w : World)
    (h : SkyAt w x ao3 cap3 ao4 cap4 ao5 cap5 ao6 cap6) :
    Calls Tryd.prog 33 #[.agg (skyCells x ao3 cap3 ao4 cap4 ao5 cap5 ao6 cap6)] w fun e w' => ∃ b : Bool, e = .returned (.bool b) ∧ (b = true ↔ SectorsOk x.1 x.2.1 x.2.2.1 x.2.2.2.2.2.1) ∧ Below w.heap.size w w' := by
  by_cases hn : x.2.2.2.2.2.1.length ≤ 6
  · exact specSectors_t x ao3 cap3 ao4 cap4 ao5 cap5 ao6 cap6 w h hn
  · exact (specSectors_many x ao3 cap3 ao4 cap4 ao5 cap5 ao6 cap6 w (by omega)).mono fun e w' h1 => ⟨false, h1.1, ⟨fun h2 => by simp at h2, fun h2 => absurd h2.1 hn⟩, h1.2⟩

theorem specRunways_any (x : DSky) (ao3 : Option Addr) (cap3 : Nat) (ao4 : Option Addr) (cap4 : Nat) (ao5 : Option Addr) (cap5 : Nat) (ao6 : Option Addr) (cap6 : Nat) (w : World)
    (h : SkyAt w x ao3 cap3 ao4 cap4 ao5 cap5 ao6 cap6) (hs : SizeOk x) :
    Calls Tryd.prog 35 #[.agg (skyCells x ao3 cap3 ao4 cap4 ao5 cap5 ao6 cap6)] w fun e w' => ∃ b : Bool, e = .returned (.bool b) ∧ (b = true ↔ RunwaysOk x.1 x.2.1 x.2.2.2.2.2.2) ∧ Below w.heap.size w w' := by
  by_cases hn : x.2.2.2.2.2.2.length ≤ 4
  · exact specRunways_t x ao3 cap3 ao4 cap4 ao5 cap5 ao6 cap6 w h hs hn
  · exact (specRunways_many x ao3 cap3 ao4 cap4 ao5 cap5 ao6 cap6 w (by omega)).mono fun e w' h1 => ⟨false, h1.1, ⟨fun h2 => by simp at h2, fun h2 => absurd h2.1 hn⟩, h1.2⟩

end Go.Proofs.YthkpjljhjdjbfaaDoor
