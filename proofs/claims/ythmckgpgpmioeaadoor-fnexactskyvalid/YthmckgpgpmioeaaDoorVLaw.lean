/- DERIVED. laws.FnExactSkyValid: its walk (written by wip/tools/mk_vl.py). -/
import Derived.Test.YthmckgpgpmioeaaDoorIV0
import Derived.Test.YthmckgpgpmioeaaDoorSkySA
import Derived.Deep.RegionWith
namespace Go.Proofs.YthmckgpgpmioeaaDoor
open Go.RowKit
set_option linter.unusedSimpArgs false
set_option linter.unusedVariables false

theorem skyAt_of {w w' : World} {x : DSky} {ao3 : Option Addr} {cap3 : Nat} {ao4 : Option Addr} {cap4 : Nat} {ao5 : Option Addr} {cap5 : Nat} {ao6 : Option Addr} {cap6 : Nat} (p3 : SliceAt vSkyPoint (fresh w w') w' ao3 cap3 x.2.2.2.1) (p4 : SliceAt vSkyAirway (fresh w w') w' ao4 cap4 x.2.2.2.2.1) (p5 : SliceAt vSkySector (fresh w w') w' ao5 cap5 x.2.2.2.2.2.1) (p6 : SliceAt vSkyRunway (fresh w w') w' ao6 cap6 x.2.2.2.2.2.2) : SkyAt w' x ao3 cap3 ao4 cap4 ao5 cap5 ao6 cap6 :=
  ⟨p3.mono fresh_old, p4.mono fresh_old, p5.mono fresh_old, p6.mono fresh_old⟩

set_option maxRecDepth 100000 in
set_option maxHeartbeats 2000000 in
theorem law_small (x : DSky) (ao3 : Option Addr) (cap3 : Nat) (ao4 : Option Addr) (cap4 : Nat) (ao5 : Option Addr) (cap5 : Nat) (ao6 : Option Addr) (cap6 : Nat) (w : World) (h : SkyAt w x ao3 cap3 ao4 cap4 ao5 cap5 ao6 cap6) (hT : TurnsLaid w) (hn : wSky x ≤ 1048576) :
    Calls Tryd.prog 3 #[.agg #[.int .i64 x.1, .int .i64 x.2.1, .int .i64 x.2.2.1, .slice ao3 x.2.2.2.1.length cap3, .slice ao4 x.2.2.2.2.1.length cap4, .slice ao5 x.2.2.2.2.2.1.length cap5, .slice ao6 x.2.2.2.2.2.2.length cap6]] w fun e w' => e = .returned (.bool true) ∧ Below w.heap.size w w' := by
  have hsz : szR 1048576 (wSky x) = 1048576 - (wSky x : Int) := szR_yes (by omega)
  have hnn : ¬ szR 1048576 (wSky x) < 0 := by rw [hsz]; omega
  have hb0 : Below w.heap.size w (w.alloc (.cells #[.int .i64 x.1, .int .i64 x.2.1, .int .i64 x.2.2.1, .slice ao3 x.2.2.2.1.length cap3, .slice ao4 x.2.2.2.2.1.length cap4, .slice ao5 x.2.2.2.2.2.1.length cap5, .slice ao6 x.2.2.2.2.2.2.length cap6] 27)) := (Below.refl _ _).alloc (Nat.le_refl _) _
  have hA := h.later hb0
  have HBX : Hid (∀ W' : World, Below (w.heap.size + 1) (w.alloc (.cells #[.int .i64 x.1, .int .i64 x.2.1, .int .i64 x.2.2.1, .slice ao3 x.2.2.2.1.length cap3, .slice ao4 x.2.2.2.2.1.length cap4, .slice ao5 x.2.2.2.2.2.1.length cap5, .slice ao6 x.2.2.2.2.2.2.length cap6] 27)) W' → ∀ i, W'.cell? ⟨w.heap.size, i, none⟩ = (#[.int .i64 x.1, .int .i64 x.2.1, .int .i64 x.2.2.1, .slice ao3 x.2.2.2.1.length cap3, .slice ao4 x.2.2.2.2.1.length cap4, .slice ao5 x.2.2.2.2.2.1.length cap5, .slice ao6 x.2.2.2.2.2.2.length cap6] : Array Value)[i]?) := fun W' hW i => box_cell hW i
  clear hsz
  go_enter Tryd.func3, Tryd.ntmps3
  go_wp2_with fail
  refine (szSky_any x ao3 cap3 ao4 cap4 ao5 cap5 ao6 cap6 1048576 _ (by omega) (by omega) hA.p3 hA.p4 hA.p5 hA.p6).mono ?_
  rintro e w1 ⟨rfl, hb1⟩
  have hx1 : Below (w.heap.size + 1) (w.alloc (.cells #[.int .i64 x.1, .int .i64 x.2.1, .int .i64 x.2.2.1, .slice ao3 x.2.2.2.1.length cap3, .slice ao4 x.2.2.2.2.1.length cap4, .slice ao5 x.2.2.2.2.2.1.length cap5, .slice ao6 x.2.2.2.2.2.2.length cap6] 27)) w1 := hb1.mono (by simp)
  have hB1 := box_below hx1
  have hA1 := h.later hB1
  have z0 := HBX.out w1 hx1 0
  have z1 := HBX.out w1 hx1 1
  have z2 := HBX.out w1 hx1 2
  have z3 := HBX.out w1 hx1 3
  have z4 := HBX.out w1 hx1 4
  have z5 := HBX.out w1 hx1 5
  have z6 := HBX.out w1 hx1 6
  simp at z0 z1 z2 z3 z4 z5 z6
  clear hb1 hb0 hA
  go_wp2_with fail
  refine (toSky_any x ao3 cap3 ao4 cap4 ao5 cap5 ao6 cap6 w1 hA1.p3 hA1.p4 hA1.p5 hA1.p6 hn).mono ?_
  rintro e w2 ⟨ao3', cap3', ao4', cap4', ao5', cap5', ao6', cap6', rfl, p3, p4, p5, p6, hb2⟩
  have hx2 : Below (w.heap.size + 1) (w.alloc (.cells #[.int .i64 x.1, .int .i64 x.2.1, .int .i64 x.2.2.1, .slice ao3 x.2.2.2.1.length cap3, .slice ao4 x.2.2.2.2.1.length cap4, .slice ao5 x.2.2.2.2.2.1.length cap5, .slice ao6 x.2.2.2.2.2.2.length cap6] 27)) w2 := hx1.trans (hb2.mono (by have := hx1.size; simpa using this))
  have hB2 := box_below hx2
  have hS2 := skyAt_of p3 p4 p5 p6
  clear z0 z1 z2 z3 z4 z5 z6 p3 p4 p5 p6 hb2
  go_wp2_with fail
  refine (sSkyValid x ao3' cap3' ao4' cap4' ao5' cap5' ao6' cap6' w2 hS2).mono ?_
  rintro e w3 ⟨he, hb3⟩
  have hx3 : Below (w.heap.size + 1) (w.alloc (.cells #[.int .i64 x.1, .int .i64 x.2.1, .int .i64 x.2.2.1, .slice ao3 x.2.2.2.1.length cap3, .slice ao4 x.2.2.2.2.1.length cap4, .slice ao5 x.2.2.2.2.2.1.length cap5, .slice ao6 x.2.2.2.2.2.2.length cap6] 27)) w3 := hx2.trans (hb3.mono (by have := hx2.size; simpa using this))
  have hB3 := box_below hx3
  have hA3 := h.later hB3
  obtain ⟨bv, hbv, rfl⟩ : ∃ bv : Bool, (bv = true ↔ ValidSky x) ∧ e = .returned (.bool bv) := by
    rcases he with ⟨h1, h2⟩ | ⟨h1, h2⟩
    · exact ⟨true, ⟨fun _ => h1, fun _ => rfl⟩, h2⟩
    · exact ⟨false, ⟨fun h3 => (by cases h3), fun h3 => absurd h3 h1⟩, h2⟩
  have HBV : Hid (bv = true ↔ ValidSky x) := hbv
  clear he hbv hb3 hS2
  have z0 := HBX.out w3 hx3 0
  have z1 := HBX.out w3 hx3 1
  have z2 := HBX.out w3 hx3 2
  have z3 := HBX.out w3 hx3 3
  have z4 := HBX.out w3 hx3 4
  have z5 := HBX.out w3 hx3 5
  have z6 := HBX.out w3 hx3 6
  simp at z0 z1 z2 z3 z4 z5 z6
  go_wp2_with fail
  refine (toSky_any x ao3 cap3 ao4 cap4 ao5 cap5 ao6 cap6 w3 hA3.p3 hA3.p4 hA3.p5 hA3.p6 hn).mono ?_
  rintro e w4 ⟨ao3q, cap3q, ao4q, cap4q, ao5q, cap5q, ao6q, cap6q, rfl, p3, p4, p5, p6, hb4⟩
  have hx4 : Below (w.heap.size + 1) (w.alloc (.cells #[.int .i64 x.1, .int .i64 x.2.1, .int .i64 x.2.2.1, .slice ao3 x.2.2.2.1.length cap3, .slice ao4 x.2.2.2.2.1.length cap4, .slice ao5 x.2.2.2.2.2.1.length cap5, .slice ao6 x.2.2.2.2.2.2.length cap6] 27)) w4 := hx3.trans (hb4.mono (by have := hx3.size; simpa using this))
  have hB4 := box_below hx4
  have hS4 := skyAt_of p3 p4 p5 p6
  have hbq : Below w4.heap.size w4 (w4.alloc (.cells #[.int .i64 x.1, .int .i64 x.2.1, .int .i64 x.2.2.1, .slice ao3q x.2.2.2.1.length cap3q, .slice ao4q x.2.2.2.2.1.length cap4q, .slice ao5q x.2.2.2.2.2.1.length cap5q, .slice ao6q x.2.2.2.2.2.2.length cap6q] 35)) := (Below.refl _ _).alloc (Nat.le_refl _) _
  have hT4 := hT.later (hB4.trans (hbq.mono hB4.size))
  have hS4' := hS4.later hbq
  clear z0 z1 z2 z3 z4 z5 z6 p3 p4 p5 p6 hb4
  go_wp2_with fail
  refine (iSkyValid x ao3q cap3q ao4q cap4q ao5q cap5q ao6q cap6q (w4.alloc (.cells #[.int .i64 x.1, .int .i64 x.2.1, .int .i64 x.2.2.1, .slice ao3q x.2.2.2.1.length cap3q, .slice ao4q x.2.2.2.2.1.length cap4q, .slice ao5q x.2.2.2.2.2.1.length cap5q, .slice ao6q x.2.2.2.2.2.2.length cap6q] 35)) hS4' hT4).mono ?_
  rintro e w5 ⟨he, hb5⟩
  have he : e = .returned (.bool bv) := by
    rcases he with ⟨h1, h2⟩ | ⟨h1, h2⟩
    · rw [h2, HBV.out.2 h1]
    · have : bv = false := by
        cases hb : bv
        · rfl
        · exact absurd (HBV.out.1 hb) h1
      rw [h2, this]
  subst he
  have hq5 : Below (w4.heap.size + 1) (w4.alloc (.cells #[.int .i64 x.1, .int .i64 x.2.1, .int .i64 x.2.2.1, .slice ao3q x.2.2.2.1.length cap3q, .slice ao4q x.2.2.2.2.1.length cap4q, .slice ao5q x.2.2.2.2.2.1.length cap5q, .slice ao6q x.2.2.2.2.2.2.length cap6q] 35)) w5 := hb5.mono (by simp)
  have hB45 := box_below hq5
  have hw04 : w.heap.size + 1 ≤ w4.heap.size := by have := hx4.size; simpa using this
  have hx5 : Below (w.heap.size + 1) (w.alloc (.cells #[.int .i64 x.1, .int .i64 x.2.1, .int .i64 x.2.2.1, .slice ao3 x.2.2.2.1.length cap3, .slice ao4 x.2.2.2.2.1.length cap4, .slice ao5 x.2.2.2.2.2.1.length cap5, .slice ao6 x.2.2.2.2.2.2.length cap6] 27)) w5 := hx4.trans (hB45.mono hw04)
  have hA5 := h.later (box_below hx5)
  have hS5 := hS4'.later hb5
  have hB5 := box_below hx5
  have z0 := HBX.out w5 hx5 0
  have z1 := HBX.out w5 hx5 1
  have z2 := HBX.out w5 hx5 2
  have z3 := HBX.out w5 hx5 3
  have z4 := HBX.out w5 hx5 4
  have z5 := HBX.out w5 hx5 5
  have z6 := HBX.out w5 hx5 6
  simp at z0 z1 z2 z3 z4 z5 z6
  have y0 : w5.cell? ⟨w4.heap.size, 0, none⟩ = some (.int .i64 x.1) := box_cell hq5 0
  have y1 : w5.cell? ⟨w4.heap.size, 1, none⟩ = some (.int .i64 x.2.1) := box_cell hq5 1
  have y2 : w5.cell? ⟨w4.heap.size, 2, none⟩ = some (.int .i64 x.2.2.1) := box_cell hq5 2
  have y3 : w5.cell? ⟨w4.heap.size, 3, none⟩ = some (.slice ao3q x.2.2.2.1.length cap3q) := box_cell hq5 3
  have y4 : w5.cell? ⟨w4.heap.size, 4, none⟩ = some (.slice ao4q x.2.2.2.2.1.length cap4q) := box_cell hq5 4
  have y5 : w5.cell? ⟨w4.heap.size, 5, none⟩ = some (.slice ao5q x.2.2.2.2.2.1.length cap5q) := box_cell hq5 5
  have y6 : w5.cell? ⟨w4.heap.size, 6, none⟩ = some (.slice ao6q x.2.2.2.2.2.2.length cap6q) := box_cell hq5 6
  have hw45 : w4.heap.size < w5.heap.size := by have := hq5.size; simp at this; omega
  have hbne : (bv != bv) = false := by simp
  clear hb5 hS4 hS4' hT4 hbq hq5 hB45 hx5 hx4 hB4 hx3 hB3 hx2 hB2 hx1 hB1 HBV
  go_wp2
  have hbd : Below w5.heap.size w5 w5.drew := (Below.refl _ _).drew
  have hA5d := hA5.later hbd
  have hS5d := hS5.later hbd
  have HTO := toSky_any x ao3 cap3 ao4 cap4 ao5 cap5 ao6 cap6 w5.drew hA5d.p3 hA5d.p4 hA5d.p5 hA5d.p6 hn
  clear hA5 hS5
  go_region_with (first | (go_at_call 6; refine HTO.mono ?_; rintro e w6 ⟨ao3r, cap3r, ao4r, cap4r, ao5r, cap5r, ao6r, cap6r, rfl, p3, p4, p5, p6, hb6⟩; have k0 := (hb6.cell (p := ⟨w4.heap.size, 0, none⟩) hw45).trans y0; have k1 := (hb6.cell (p := ⟨w4.heap.size, 1, none⟩) hw45).trans y1; have k2 := (hb6.cell (p := ⟨w4.heap.size, 2, none⟩) hw45).trans y2; have k3 := (hb6.cell (p := ⟨w4.heap.size, 3, none⟩) hw45).trans y3; have k4 := (hb6.cell (p := ⟨w4.heap.size, 4, none⟩) hw45).trans y4; have k5 := (hb6.cell (p := ⟨w4.heap.size, 5, none⟩) hw45).trans y5; have k6 := (hb6.cell (p := ⟨w4.heap.size, 6, none⟩) hw45).trans y6) | (go_at_call 8; refine (eqSky_any x ao3q cap3q ao4q cap4q ao5q cap5q ao6q cap6q ao3r cap3r ao4r cap4r ao5r cap5r ao6r cap6r _ (hS5d.p3.later hb6) (p3.mono fresh_old) (hS5d.p4.later hb6) (p4.mono fresh_old) (hS5d.p5.later hb6) (p5.mono fresh_old) (hS5d.p6.later hb6) (p6.mono fresh_old) hn).mono ?_; rintro e w7 ⟨rfl, hb7⟩))
  all_goals
    go_wp2
    go_ret
    exact ⟨rfl, ((hB5.trans (hbd.mono hB5.size)).trans (hb6.mono (by have := hB5.size; simpa using this))).trans (hb7.mono (by have h1 := hb6.size; have h2 := hB5.size; simp at h1; omega))⟩

end Go.Proofs.YthmckgpgpmioeaaDoor
